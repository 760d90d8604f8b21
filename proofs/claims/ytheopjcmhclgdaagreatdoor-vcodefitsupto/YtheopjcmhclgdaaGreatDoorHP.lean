/- HP: what follows, part by part: each part tells what it holds. -/
import Derived.Test.YtheopjcmhclgdaaGreatDoorVcA
import Derived.Test.YtheopjcmhclgdaaGreatDoorShelf
import Derived.Lib.ItoaLen
import Derived.Lib.AppendIntMem
import Derived.Lib.AppendStr
import Derived.Lib.ConvBytes
import Derived.RegionTactic
import Derived.Test.YtheopjcmhclgdaaGreatDoorVcG
import Derived.Deep.RegionLaw
import Derived.Deep.RegionHeld3
import Derived.Deep.DeepCutAuto
import Derived.Test.YtheopjcmhclgdaaGreatDoorOpFm

/- Numbers as texts: strconv.Itoa, FormatInt, FormatUint at base 10. -/
namespace Go.Proofs.YtheopjcmhclgdaaGreatDoor
open Go.RowKit Go.Sort Go.Lib
namespace Vc
set_option linter.unusedVariables false

/-- the table of powers of ten -/
def P10 (w : World) : Prop := Lib.TabIs Tryz.prog w "internal/strconv.uint64pow10" .u64 Lib.pow10Tab
theorem P10.below {w w' : World} (h : P10 w) (hb : Below w.heap.size w w') : P10 w' := by
  have hg : Tryz.prog.globalNamed "internal/strconv.uint64pow10" = some 5 := by kernel_rfl
  unfold P10 Lib.TabIs at *
  simp only [World.var?, hg, Option.bind_some] at h ⊢
  have hlt : 5 < w.heap.size := by
    rcases Nat.lt_or_ge 5 w.heap.size with h' | h'
    · exact h'
    · rw [Array.getElem?_eq_none h'] at h; simp at h
  rw [hb.block _ hlt]
  exact h
/-- a number's text -/
def dec (n : Int) : List UInt8 := Lib.itoa n
theorem dec_len (n : Int) (h : i64 n) : (dec n).length ≤ 21 := Lib.itoa_length_le n h.1 h.2
theorem itoa_any (n : Int) (h : i64 n) (w : World) (hT : P10 w) :
    Calls Tryz.prog 28 #[.int .i64 n] w fun e w' => e = .returned (.string (str (dec n))) ∧ Below w.heap.size w w' :=
  (Tryz.strconv_Itoa n h.1 h.2 w hT).mono (by rintro e w' ⟨rfl, k, os, rfl⟩; exact ⟨rfl, Lib.below_grow _ _ (Nat.le_refl _) _ _⟩)
theorem fint_any (n : Int) (h : i64 n) (w : World) (hT : P10 w) :
    Calls Tryz.prog 51 #[.int .i64 n, .int .i64 10] w fun e w' => e = .returned (.string (str (dec n))) ∧ Below w.heap.size w w' :=
  (Tryz.strconv_FormatInt_10 n h.1 h.2 w hT).mono (by rintro e w' ⟨rfl, k, os, rfl⟩; exact ⟨rfl, Lib.below_grow _ _ (Nat.le_refl _) _ _⟩)

theorem holds_zero0 (w : World) (T : TypeId) (nd : Nat) (hs : nd ≤ 24) : Holds (fun (b : UInt8) => Value.int .u8 (b.toNat : Int)) (w.alloc (.cells Lib.zeros24 T)) w.heap.size 0 (Array.replicate nd (0 : UInt8)) := fun j hj => by
  have hj' : j < nd := by simpa using hj
  refine ⟨?_, World.frozen?_alloc_new _ _ _ _⟩
  rw [World.cell?_alloc_new, Lib.zeros24_at _ (by omega), getElem!_pos _ j hj]
  simp
theorem fin_pos0 (w : World) (o : Obj) (dk : Array UInt8) (k : Nat) : ∃ os, (putRow (fun (b : UInt8) => Value.int .u8 (b.toNat : Int)) (w.alloc o) w.heap.size 0 dk).drewN k = grow (w.drewN k) os := by
  rw [alloc_eq_grow]
  obtain ⟨os', _, e⟩ := putRow_grow_new (fun (b : UInt8) => Value.int .u8 (b.toNat : Int)) w #[o] w.heap.size 0 dk (Nat.le_refl _)
  exact ⟨os', by rw [e]; rfl⟩

set_option maxHeartbeats 6400000 in
set_option maxRecDepth 100000 in
theorem fuint_in (u : Nat) (hu : u < 4294967296) (w : World) (hT : P10 w) :
    Calls Tryz.prog 66 #[.int .u64 u, .int .i64 10] w fun e w' => e = .returned (.string (str (dec u))) ∧ Below w.heap.size w w' := by
  by_cases hs : u < 100
  · have hc := Tryz.internal_strconv_small u hs w
    have HC := hide hc; clear hc
    have HD := hide (show dec (u : Int) = Lib.decDigits u from Lib.itoa_nonneg u)
    go_enter Tryz.func66, Tryz.ntmps66
    go_wp2_with fail
    refine (unhide HC).mono ?_
    rintro e w1 ⟨rfl, rfl⟩
    go_wp2
    go_ret
    exact ⟨by rw [unhide HD]; rfl, Below.refl _ _⟩
  · have hu1 : 1 ≤ u := by omega
    have hu64 : u < 18446744073709551616 := by omega
    have hnd20 : Lib.nDigits u ≤ 20 := by have := Lib.numDigits_eq u hu1 hu64; split at this <;> omega
    have hal : Tryz.prog.arrayLen 187 = 24 := by kernel_rfl
    have hsl1 : ∀ W, (Instr.sliceAt 187 (.pointer (some ⟨w.heap.size, 0, none⟩)) none (some (.int .i64 (Lib.nDigits u : Int))) none).run Tryz.prog W = .ok (.slice (some ⟨w.heap.size, 0, none⟩) (Lib.nDigits u) 24) W := fun W => by
      rw [run_sliceAt_array_h W 187 ⟨w.heap.size, 0, none⟩ (by simp [Program.arrayLen, Program.elem, Tryz.underlying187]) .i64 (Lib.nDigits u : Int) (by omega) (by rw [hal]; omega)]
      go_simp
    have hH0 := holds_zero0 w 187 (Lib.nDigits u) (by omega)
    have hfmt := Tryz.internal_strconv_formatBase10 w.heap.size 0 24 u (Array.replicate (Lib.nDigits u) 0) (w.alloc (.cells Lib.zeros24 187)) hH0 (by rw [Array.size_replicate]; exact Lib.lt_pow_nDigits u) hu64 (by rw [Array.size_replicate]; omega)
    rw [Array.size_replicate] at hfmt
    have hnd := Tryz.internal_strconv_numDigits u hu1 hu64 (w.alloc (.cells Lib.zeros24 187)) (P10.below hT (one_alloc _ _))
    have HH0 := hide hH0; have HF := hide hfmt; have HND := hide hnd
    have HD := hide (show dec (u : Int) = Lib.decDigits u from Lib.itoa_nonneg u)
    have t100 : decide ((u : Int) < 100) = false := by simp; omega
    clear hH0 hfmt hnd hal hT hs
    go_enter Tryz.func66, Tryz.ntmps66
    go_wp2_with fail
    refine (unhide HND).mono ?_
    rintro e w1 ⟨rfl, rfl⟩
    go_wp2_with fail
    refine (unhide HF).mono ?_
    rintro e w1 ⟨rfl, k, v', dk, rfl, hF⟩
    have hcv : (convert 57 9 (.slice (some ⟨w.heap.size, 0, none⟩) (Lib.nDigits u) 24)).run Tryz.prog ((putRow (fun (b : UInt8) => Value.int .u8 (b.toNat : Int)) (w.alloc (.cells Lib.zeros24 187)) w.heap.size 0 dk).drewN k) = .ok (.string ⟨(Lib.decDigits u).toArray⟩) ((putRow (fun (b : UInt8) => Value.int .u8 (b.toNat : Int)) (w.alloc (.cells Lib.zeros24 187)) w.heap.size 0 dk).drewN k) := by
      have h := run_convert_bytes_back (P := Tryz.prog) ((putRow (fun (b : UInt8) => Value.int .u8 (b.toNat : Int)) (w.alloc (.cells Lib.zeros24 187)) w.heap.size 0 dk).drewN k) 57 9 5 ⟨w.heap.size, 0, none⟩ 24 (Lib.decDigits u) Tryz.underlying57 Tryz.underlying5 Tryz.underlying9 (fun j hj => by
        rw [Lib.row_is_numeral hF j hj, Lib.add_plain, World.cell?_drewN]
        exact cell?_putRow (fun (b : UInt8) => Value.int .u8 (b.toNat : Int)) _ w.heap.size 0 _ dk (unhide HH0) (by rw [hF.size, Array.size_replicate]) j (by rw [hF.size]; rw [Lib.decDigits_length] at hj; exact hj))
      rw [Lib.decDigits_length] at h
      exact h
    obtain ⟨os, eo⟩ := fin_pos0 w (.cells Lib.zeros24 187) dk k
    have HEo := hide eo
    clear hF HH0 eo
    go_wp2
    go_ret
    exact ⟨by rw [unhide HD]; rfl, by rw [unhide HEo]; exact Lib.below_grow _ _ (Nat.le_refl _) _ _⟩
theorem fuint_any (u : Nat) (hu : u < 4294967296) (w : World) (hT : P10 w) :
    Calls Tryz.prog 52 #[.int .u64 u, .int .i64 10] w fun e w' => e = .returned (.string (str (dec u))) ∧ Below w.heap.size w w' := by
  have hc := fuint_in u hu w hT
  have HC := hide hc; clear hc hT
  generalize str (dec u) = s at *
  go_enter Tryz.func52, Tryz.ntmps52
  go_wp2_with fail
  refine (unhide HC).mono ?_
  rintro e w1 ⟨rfl, hb⟩
  have HB := hide hb; clear hb
  go_wp2
  go_ret
  exact ⟨rfl, unhide HB⟩
end Vc
end Go.Proofs.YtheopjcmhclgdaaGreatDoor

/- A builder of bytes: rows of the call's own, also one that came of a text; append of a text, of bytes. -/
namespace Go.Proofs.YtheopjcmhclgdaaGreatDoor
open Go.RowKit
namespace Vc
set_option linter.unusedVariables false
set_option linter.unusedSimpArgs false

theorem infoB : (Tryz.prog.info? 5).map (fun i => (i.zero, i.size, i.bytes)) = some (some (.int .u8 0), 1, 1) := by kernel_rfl
def bc (l : List UInt8) : List Value := l.map fun b => Value.int .u8 b.toNat
theorem bc_len (l : List UInt8) : (bc l).length = l.length := by simp [bc]
theorem bc_one (l : List UInt8) : ∀ u ∈ bc l, u.oneCell' = true := by
  intro u hu
  simp only [bc, List.mem_map] at hu
  obtain ⟨b, _, rfl⟩ := hu
  rfl
theorem str_cells (l : List UInt8) : Lib.strCells (str l) = bc l := rfl
theorem str_size (l : List UInt8) : (str l).size = l.length := rfl
/-- bytes of the call's own -/
def Bd (w : World) (B : Nat) (v : Value) (xs : List UInt8) : Prop :=
  (v = .slice none 0 0 ∧ xs = []) ∨ ∃ g cap cur fz, v = .slice (some ⟨g, 0, none⟩) xs.length cap ∧ B ≤ g ∧ w.heap[g]? = some (.cells cur 5 fz) ∧ (fz = (0, 0) ∨ cap ≤ fz.1) ∧ xs.length ≤ cap ∧ cap ≤ maxLen ∧ cur.size = cap ∧ cur.toList.take xs.length = bc xs
theorem Bd.shape {w : World} {B : Nat} {v : Value} {xs : List UInt8} (h : Bd w B v xs) : ∃ a c, v = .slice a xs.length c ∧ xs.length ≤ c := by
  rcases h with ⟨rfl, rfl⟩ | ⟨g, cap, cur, fz, rfl, _, _, _, h, _⟩
  · exact ⟨none, 0, rfl, Nat.le_refl _⟩
  · exact ⟨_, cap, rfl, h⟩
theorem Bd.lt {w : World} {B : Nat} {v : Value} {xs : List UInt8} (h : Bd w B v xs) : ∀ k, v.ownBlock = some k → B ≤ k ∧ ∃ cur fz, w.heap[k]? = some (.cells cur 5 fz) := by
  rcases h with ⟨rfl, rfl⟩ | ⟨g, cap, cur, fz, rfl, hg, hh, _⟩
  · intro k hk; cases hk
  · intro k hk; cases hk; exact ⟨hg, cur, fz, hh⟩
theorem Bd.move {w w' : World} {B : Nat} {v : Value} {xs : List UInt8} (h : Bd w B v xs) (ho : ∀ k, v.ownBlock = some k → w'.heap[k]? = w.heap[k]?) : Bd w' B v xs := by
  rcases h with ⟨rfl, rfl⟩ | ⟨g, cap, cur, fz, rfl, hg, hh, h4⟩
  · exact .inl ⟨rfl, rfl⟩
  · exact .inr ⟨g, cap, cur, fz, rfl, hg, (ho g rfl).trans hh, h4⟩
theorem Bd.below {w w' : World} {B : Nat} {v : Value} {xs : List UInt8} (h : Bd w B v xs) (hb : Below w.heap.size w w') : Bd w' B v xs :=
  h.move fun k hk => hb.block k (by obtain ⟨_, cur, fz, hh⟩ := h.lt k hk; exact (Array.getElem?_eq_some_iff.1 hh).1)
/-- blocks that are none of bytes stay -/
def Kt (w w' : World) : Prop := ∀ (q : Nat) (A : Array Value) (t : TypeId) (z : Nat × Nat), t ≠ 5 → w.heap[q]? = some (Obj.cells A t z) → w'.heap[q]? = w.heap[q]?
theorem Kt.on {w w1 w2 : World} (h : Kt w w1) (h2 : Kt w1 w2) : Kt w w2 := fun q A t z ht hq => (h2 q A t z ht ((h q A t z ht hq).trans hq)).trans (h q A t z ht hq)
theorem Kt.of {w w' : World} (h : Below w.heap.size w w') : Kt w w' := fun q A t z ht hq => h.block q (Array.getElem?_eq_some_iff.1 hq).1
theorem Kt.refl (w : World) : Kt w w := fun _ _ _ _ _ _ => rfl
/-- what an append leaves -/
def Fr (B : Nat) (w w' : World) : Prop := Below B w w' ∧ Kt w w'
theorem Fr.refl (B : Nat) (w : World) : Fr B w w := ⟨Below.refl _ _, Kt.refl _⟩
theorem Fr.on {B : Nat} {w w1 w2 : World} (h : Fr B w w1) (h2 : Fr B w1 w2) : Fr B w w2 := ⟨h.1.trans h2.1, h.2.on h2.2⟩
theorem Fr.of {B : Nat} {w w' : World} (hB : B ≤ w.heap.size) (h : Below w.heap.size w w') : Fr B w w' := ⟨h.mono hB, Kt.of h⟩
theorem Fr.row {B : Nat} {w w' : World} (h : Fr B w w') {q : Nat} {A : Array Value} {t : TypeId} {z : Nat × Nat} (ht : t ≠ 5) (hq : w.heap[q]? = some (.cells A t z)) : w'.heap[q]? = some (.cells A t z) := (h.2 q A t z ht hq).trans hq

theorem run_storeC (P : Program) (g o : Nat) (t : TypeId) (fz : Nat × Nat) : ∀ (vs : List Value) (i : Nat) (cur : Array Value) (w : World), w.heap[g]? = some (.cells cur t fz) → (fz = (0, 0) ∨ cur.size ≤ fz.1) → o + i + vs.length ≤ cur.size → (∀ v ∈ vs, v.oneCell' = true) →
    (storeCells ⟨g, o, none⟩ vs i).run P w = .ok () (w.setRow g (cur.toList.take (o + i) ++ vs ++ cur.toList.drop (o + i + vs.length)).toArray)
  | [], i, cur, w, hg, _, _, _ => by
    simp only [storeCells, List.append_nil, List.length_nil, Nat.add_zero, List.take_append_drop, Array.toArray_toList]
    rw [setRow_self w g cur t fz hg]
    rfl
  | v :: rest, i, cur, w, hg, hfz, hl, h1 => by
    have hi : o + i < cur.size := by simp at hl; omega
    have hadd : (⟨g, o, none⟩ : Addr).add i = ⟨g, o + i, none⟩ := by unfold Addr.add; split <;> simp_all
    have hcell : w.cell? ⟨g, o + i, none⟩ = some cur[o + i] := by simp [World.cell?, hg, hi]
    have hfro : w.frozen? ⟨g, o + i, none⟩ = false := by
      obtain ⟨lo, hi'⟩ := fz
      simp only [World.frozen?, hg, Bool.and_eq_false_iff, decide_eq_false_iff_not]
      rcases hfz with h | h
      · simp only [Prod.mk.injEq] at h; right; omega
      · left; simp only at h; omega
    have hst : (store ((⟨g, o, none⟩ : Addr).add i) v).run P w = .ok () (w.setRow g (cur.setIfInBounds (o + i) v)) := by
      rw [hadd, run_store P w _ v _ (h1 v (by simp)), hcell]
      simp [hfro, setCell_eq_setRow w g (o + i) cur t fz v hg]
    have ih := run_storeC P g o t fz rest (i + 1) (cur.setIfInBounds (o + i) v) (w.setRow g (cur.setIfInBounds (o + i) v)) (setRow_heap w g cur _ t _ hg) (by simpa using hfz) (by simp at hl ⊢; omega) (fun x hx => h1 x (by simp [hx]))
    simp only [storeCells, Sem.run_bind, hst, Result.andThen_ok, ih, setRow_setRow]
    congr 3
    have e := list_seg_step cur.toList (o + i) v rest (by simp at hl ⊢; omega)
    simpa [Array.toList_setIfInBounds, Nat.add_assoc] using e

theorem bd_new {w : World} {B : Nat} {xs ys : List UInt8} (hB : B ≤ w.heap.size) (old : Nat) (hb : xs.length + ys.length ≤ 1099511627776) :
    Bd (w.drew.alloc (.cells ((bc xs).toArray ++ (bc ys).toArray ++ Builtin.zeroCells (Value.int .u8 0).cells (grownCap w (xs.length + ys.length) old 5 - (xs.length + ys.length))) 5)) B
      (.slice (some ⟨w.heap.size, 0, none⟩) (xs.length + ys.length) (grownCap w (xs.length + ys.length) old 5)) (xs ++ ys) ∧
    Below w.heap.size w (w.drew.alloc (.cells ((bc xs).toArray ++ (bc ys).toArray ++ Builtin.zeroCells (Value.int .u8 0).cells (grownCap w (xs.length + ys.length) old 5 - (xs.length + ys.length))) 5)) := by
  have hge := grownCap_ge w (xs.length + ys.length) old 5
  have hcm := grownCap_le_maxLen w (xs.length + ys.length) old 5 (by unfold maxLen; omega)
  have hz1 : (Value.int IntKind.u8 0).cells.size = 1 := rfl
  refine ⟨.inr ⟨w.heap.size, _, _, (0, 0), by rw [List.length_append], hB, heap_alloc_new w.drew _, .inl rfl, by rw [List.length_append]; exact hge, hcm, ?_, ?_⟩, (Below.refl w.heap.size w).drew.alloc (Nat.le_refl _) _⟩
  · simp only [Array.size_append, List.size_toArray, size_zeroCells, hz1, bc_len]; omega
  · simp only [Array.toList_append, bc, List.map_append]
    exact List.take_left' (by simp)
theorem bd_room {w : World} {B g cap : Nat} {xs ys : List UInt8} {cur : Array Value} {fz : Nat × Nat} (hg : B ≤ g) (hh : w.heap[g]? = some (.cells cur 5 fz)) (hfz : fz = (0, 0) ∨ cap ≤ fz.1) (hcm : cap ≤ maxLen) (hcs : cur.size = cap) (ht : cur.toList.take xs.length = bc xs) (hr : xs.length + ys.length ≤ cap) :
    Bd (w.setRow g (cur.toList.take xs.length ++ bc ys ++ cur.toList.drop (xs.length + ys.length)).toArray) B (.slice (some ⟨g, 0, none⟩) (xs.length + ys.length) cap) (xs ++ ys) := by
  refine .inr ⟨g, cap, _, fz, by rw [List.length_append], hg, setRow_heap w g cur _ 5 _ hh, hfz, by rw [List.length_append]; exact hr, hcm, ?_, ?_⟩
  · simp only [List.size_toArray, List.length_append, List.length_take, List.length_drop, Array.length_toList, bc_len]; omega
  · rw [ht]
    simp only [bc, List.map_append]
    exact List.take_left' (by simp)
theorem fr_grown {w w' : World} {B : Nat} {v : Value} {xs : List UInt8} (h : Bd w B v xs) (hB : B ≤ w.heap.size) (hg : w.grownBy w' v.ownBlock) : Fr B w w' := by
  refine ⟨(Below.refl B w).grown hg hB (fun k hk => (h.lt k hk).1), fun q A t z ht hq => hg.block q (Array.getElem?_eq_some_iff.1 hq).1 (fun e => ?_)⟩
  obtain ⟨_, cur, fz, hh⟩ := h.lt q e.symm
  have := hq.symm.trans hh
  simp at this
  exact ht this.2.1
/-- append(own, text...) -/
theorem app_str (w : World) (ty : TypeId) (B : Nat) (v : Value) (xs ys : List UInt8) (hown : Bd w B v xs) (hb : xs.length + ys.length ≤ 1099511627776) (hB : B ≤ w.heap.size) :
    ∃ a' n' c' w', (Builtin.append_ #[57, 9] ty #[v, .string (str ys)]).run Tryz.prog w = .ok (.slice a' n' c') w' ∧ Bd w' B (.slice a' n' c') (xs ++ ys) ∧ Fr B w w' := by
  obtain ⟨i0, hi, hz0, hz1, hz2⟩ := info_parts infoB
  have h0 := hown
  rcases hown with ⟨rfl, rfl⟩ | ⟨g, cap, cur, fz, rfl, hg, hh, hfz, hnc, hcm, hcs, htake⟩
  · by_cases hm : ys.length = 0
    · have : ys = [] := List.eq_nil_of_length_eq_zero hm
      subst this
      refine ⟨none, 0, 0, w, ?_, h0, Fr.refl _ _⟩
      have hf := Lib.run_firstCells_string (P := Tryz.prog) w 1 (str [])
      rw [str_size, List.length_nil] at hf
      simp [Builtin.append_, run_underlying Tryz.underlying57, run_underlying Tryz.underlying9, sizeOf, typeInfo, hi, hz1, Builtin.lenOf, str_size, hf]
    · have hr := run_append_nil_string (P := Tryz.prog) w 57 9 ty 5 i0 (.int .u8 0) Tryz.underlying57 Tryz.underlying9 hi hz0 (str ys) (by rw [str_size]; omega) (by rw [str_size]; simp at hb; omega) (by rw [hz2, str_size]; simp at hb; omega)
      have hn := bd_new (w := w) (xs := []) (ys := ys) hB 0 hb
      simp only [List.length_nil, Nat.zero_add, List.nil_append] at hn
      have e1 : ((str ys).data.map fun b => Value.int .u8 b.toNat) = (bc ([] : List UInt8)).toArray ++ (bc ys).toArray := by
        apply Array.ext'; simp [bc, str]
      rw [e1] at hr
      exact ⟨_, _, _, _, hr, hn.1, Fr.of hB hn.2⟩
  · by_cases hroom : xs.length + ys.length ≤ cap
    · have hf := Lib.run_firstCells_string (P := Tryz.prog) w 1 (str ys)
      rw [str_size, str_cells] at hf
      have hst := run_storeC Tryz.prog g xs.length 5 fz (bc ys) 0 cur w hh (by rw [hcs]; exact hfz) (by rw [bc_len, hcs]; omega) (bc_one ys)
      simp only [Nat.add_zero, bc_len] at hst
      have hrun : (Builtin.append_ #[57, 9] ty #[.slice (some ⟨g, 0, none⟩) xs.length cap, .string (str ys)]).run Tryz.prog w = .ok (.slice (some ⟨g, 0, none⟩) (xs.length + ys.length) cap) (w.setRow g (cur.toList.take xs.length ++ bc ys ++ cur.toList.drop (xs.length + ys.length)).toArray) := by
        simp [Builtin.append_, run_underlying Tryz.underlying57, run_underlying Tryz.underlying9, sizeOf, typeInfo, hi, hz1, Builtin.lenOf, str_size, hroom, hf, Addr.add_lit, hst]
      exact ⟨_, _, _, _, hrun, bd_room hg hh hfz hcm hcs htake hroom, fr_grown h0 hB ⟨rfl, rfl, rfl, by simp, fun k _ hk => setRow_other w g k _ (fun e => hk (by simp [Value.ownBlock, e]))⟩⟩
    · have holds : ∀ j u, (bc xs)[j]? = some u → w.cell? ((⟨g, 0, none⟩ : Addr).add j) = some u := by
        intro j u hu
        rw [Addr.add_lit, Nat.zero_add, cell_of_row w g j cur _ _ hh]
        rw [← htake, List.getElem?_take] at hu
        split at hu
        · simpa using hu
        · cases hu
      have hr := Lib.run_append_grow_string (P := Tryz.prog) w 57 9 ty 5 i0 (.int .u8 0) Tryz.underlying57 Tryz.underlying9 hi hz0 ⟨g, 0, none⟩ xs.length cap (bc xs) (by rw [hz1, bc_len, Nat.mul_one]) holds (str ys) (by rw [str_size]; omega) (by rw [str_size]; omega) (by rw [hz2, str_size]; exact growslice_fits (by omega) (by omega))
      rw [str_size, str_cells] at hr
      have hn := bd_new (w := w) (xs := xs) (ys := ys) hB cap hb
      exact ⟨_, _, _, _, hr, hn.1, Fr.of hB hn.2⟩
/-- append(own, byte) -/
theorem app_row (w : World) (ty : TypeId) (B : Nat) (v : Value) (xs ys : List UInt8) (hx : 0 < xs.length) (hown : Bd w B v xs) (ad : Addr) (c : Nat) (hnews : ∀ j u, (bc ys)[j]? = some u → w.cell? (ad.add j) = some u) (hb : xs.length + ys.length ≤ 1099511627776) (hB : B ≤ w.heap.size) :
    ∃ a' n' c' w', (Builtin.append_ #[57, 57] ty #[v, .slice (some ad) ys.length c]).run Tryz.prog w = .ok (.slice a' n' c') w' ∧ Bd w' B (.slice a' n' c') (xs ++ ys) ∧ Fr B w w' := by
  obtain ⟨i0, hi, hz0, hz1, hz2⟩ := info_parts infoB
  have h0 := hown
  rcases hown with ⟨rfl, rfl⟩ | ⟨g, cap, cur, fz, rfl, hg, hh, hfz, hnc, hcm, hcs, htake⟩
  · simp at hx
  · by_cases hroom : xs.length + ys.length ≤ cap
    · have hf := run_firstCells_some (P := Tryz.prog) w 1 ys.length ad ys.length c (bc ys) (by rw [bc_len, Nat.mul_one]) hnews
      have hst := run_storeC Tryz.prog g xs.length 5 fz (bc ys) 0 cur w hh (by rw [hcs]; exact hfz) (by rw [bc_len, hcs]; omega) (bc_one ys)
      simp only [Nat.add_zero, bc_len] at hst
      have hrun : (Builtin.append_ #[57, 57] ty #[.slice (some ⟨g, 0, none⟩) xs.length cap, .slice (some ad) ys.length c]).run Tryz.prog w = .ok (.slice (some ⟨g, 0, none⟩) (xs.length + ys.length) cap) (w.setRow g (cur.toList.take xs.length ++ bc ys ++ cur.toList.drop (xs.length + ys.length)).toArray) := by
        simp [Builtin.append_, run_underlying Tryz.underlying57, sizeOf, typeInfo, hi, hz1, Builtin.lenOf, hroom, hf, Addr.add_lit, hst]
      exact ⟨_, _, _, _, hrun, bd_room hg hh hfz hcm hcs htake hroom, fr_grown h0 hB ⟨rfl, rfl, rfl, by simp, fun k _ hk => setRow_other w g k _ (fun e => hk (by simp [Value.ownBlock, e]))⟩⟩
    · have holds : ∀ j u, (bc xs)[j]? = some u → w.cell? ((⟨g, 0, none⟩ : Addr).add j) = some u := by
        intro j u hu
        rw [Addr.add_lit, Nat.zero_add, cell_of_row w g j cur _ _ hh]
        rw [← htake, List.getElem?_take] at hu
        split at hu
        · simpa using hu
        · cases hu
      have hr := run_append_grow (P := Tryz.prog) w 57 ty 5 i0 (.int .u8 0) Tryz.underlying57 hi hz0 ⟨g, 0, none⟩ xs.length cap (bc xs) (by rw [hz1, bc_len, Nat.mul_one]) holds ad ys.length c (bc ys) (by rw [hz1, bc_len, Nat.mul_one]) hnews (by omega) (by omega) (by rw [hz2]; exact growslice_fits (by omega) (by omega))
      have hn := bd_new (w := w) (xs := xs) (ys := ys) hB cap hb
      exact ⟨_, _, _, _, hr, hn.1, Fr.of hB hn.2⟩
theorem wp_app {ops : Array Oper} {rest : List Oper} {o : Oper} {a : Act} {Q : Exit → Act → World → Prop} (w : World) (hgd : o.guard = none) (s x : Operand)
    (ho : o.op = .call { callee := .builtin .append, args := #[s, x], argTypes := #[57, 9] })
    (B : Nat) (v : Value) (xs ys : List UInt8) (hs : a.eval s = v) (hown : Bd w B v xs) (hx : a.eval x = .string (str ys)) (hb : xs.length + ys.length ≤ 1099511627776) (hB : B ≤ w.heap.size)
    (h : ∀ a' n' c' w', Bd w' B (.slice a' n' c') (xs ++ ys) → Fr B w w' → wpList Tryz.prog ops Q rest (a.put o.dst (.slice a' n' c')) w') : wpList Tryz.prog ops Q (o :: rest) a w := by
  obtain ⟨a', n', c', w', hrun, h1, h2⟩ := app_str w o.type B v xs ys hown hb hB
  refine wpList_plain hgd fun _ hK => ?_
  unfold Oper.wp
  simp [execOp, ho, resolve, invoke, builtin, hs, hx, hrun, Result.andThen]
  exact hK _ _ (h a' n' c' w' h1 h2)
theorem wp_appb {ops : Array Oper} {rest : List Oper} {o : Oper} {a : Act} {Q : Exit → Act → World → Prop} (w : World) (hgd : o.guard = none) (s x : Operand)
    (ho : o.op = .call { callee := .builtin .append, args := #[s, x], argTypes := #[57, 57] })
    (B : Nat) (v : Value) (xs ys : List UInt8) (h0 : 0 < xs.length) (hs : a.eval s = v) (hown : Bd w B v xs) (ad : Addr) (c m : Nat) (hm : m = ys.length) (hx : a.eval x = .slice (some ad) m c) (hnews : ∀ j u, (bc ys)[j]? = some u → w.cell? (ad.add j) = some u) (hb : xs.length + ys.length ≤ 1099511627776) (hB : B ≤ w.heap.size)
    (h : ∀ a' n' c' w', Bd w' B (.slice a' n' c') (xs ++ ys) → Fr B w w' → wpList Tryz.prog ops Q rest (a.put o.dst (.slice a' n' c')) w') : wpList Tryz.prog ops Q (o :: rest) a w := by
  subst hm
  obtain ⟨a', n', c', w', hrun, h1, h2⟩ := app_row w o.type B v xs ys h0 hown ad c hnews hb hB
  refine wpList_plain hgd fun _ hK => ?_
  unfold Oper.wp
  simp [execOp, ho, resolve, invoke, builtin, hs, hx, hrun, Result.andThen]
  exact hK _ _ (h a' n' c' w' h1 h2)
theorem step_app {ops : Array Oper} {o : Oper} {a : Act} {K : Act → World → Prop} {Q : Exit → Act → World → Prop} {E : Prop} (w : World) (hgd : o.guard = none) (s x : Operand)
    (ho : o.op = .call { callee := .builtin .append, args := #[s, x], argTypes := #[57, 9] })
    (B : Nat) (v : Value) (xs ys : List UInt8) (hs : a.eval s = v) (hown : Bd w B v xs) (hx : a.eval x = .string (str ys)) (hb : xs.length + ys.length ≤ 1099511627776) (hB : B ≤ w.heap.size)
    (h : ∀ a' n' c' w', Bd w' B (.slice a' n' c') (xs ++ ys) → Fr B w w' → K (a.put o.dst (.slice a' n' c')) w') :
    if Region.wanted o (yielded ops a.tmps) = true then Oper.wp Tryz.prog o a w K Q else E := by
  have hw : Region.wanted o (yielded ops a.tmps) = true := by simp [Region.wanted, hgd]
  rw [if_pos hw]
  obtain ⟨a', n', c', w', hrun, h1, h2⟩ := app_str w o.type B v xs ys hown hb hB
  unfold Oper.wp
  simp [execOp, ho, resolve, invoke, builtin, hs, hx, hrun, Result.andThen]
  exact h a' n' c' w' h1 h2
/-- []byte(text) -/
theorem conv_bd (w : World) (l : List UInt8) (hl : l.length ≤ 1099511627776) : ∃ c w', (convert 9 57 (.string (str l))).run Tryz.prog w = .ok (.slice (some ⟨w.heap.size, 0, none⟩) l.length c) w' ∧ Bd w' w.heap.size (.slice (some ⟨w.heap.size, 0, none⟩) l.length c) l ∧ Below w.heap.size w w' := by
  have hr := Lib.run_convert_string_bytes (P := Tryz.prog) w 9 57 5 (str l) Tryz.underlying9 Tryz.underlying57 Tryz.underlying5
  have hge := grownCap_ge w l.length 0 5
  have hcm := grownCap_le_maxLen w l.length 0 5 (by unfold maxLen; omega)
  have hsz : (Lib.bytesCells w 5 (str l)).size = grownCap w l.length 0 5 := by
    simp only [Lib.bytesCells, Array.size_append, Array.size_map, Array.size_replicate, str_size]
    show l.length + _ = _
    omega
  rw [str_size] at hr
  refine ⟨_, _, hr, .inr ⟨_, _, _, _, rfl, Nat.le_refl _, Lib.bytesWorld_at_new w 5 (str l), .inr (by rw [hsz]; exact Nat.le_refl _), hge, hcm, hsz, ?_⟩, ⟨rfl, rfl, rfl, by rw [Lib.bytesWorld_size]; omega, fun k hk => Lib.bytesWorld_at_old w _ _ k hk⟩⟩
  simp only [Lib.bytesCells, Array.toList_append]
  have e : (Array.map (fun b => Value.int IntKind.u8 ↑b.toNat) (str l).data).toList = bc l := by simp [bc, str]
  rw [e]
  exact List.take_left' (bc_len l)
/-- string(bytes) -/
theorem back_bd {w : World} {B : Nat} {a : Option Addr} {n c : Nat} {xs : List UInt8} (h : Bd w B (.slice a n c) xs) : (convert 57 9 (.slice a n c)).run Tryz.prog w = .ok (.string (str xs)) w := by
  rcases h with ⟨e, rfl⟩ | ⟨g, cap, cur, fz, e, hg, hh, _, _, _, _, ht⟩
  · cases e
    rw [run_convert_bytes_nil (P := Tryz.prog) w 57 5 Tryz.underlying57 Tryz.underlying5 0 0 9 Tryz.underlying9]
    rfl
  · simp only [Value.slice.injEq] at e
    obtain ⟨rfl, rfl, rfl⟩ := e
    exact run_convert_bytes_back (P := Tryz.prog) w 57 9 5 ⟨g, 0, none⟩ _ xs Tryz.underlying57 Tryz.underlying5 Tryz.underlying9 (fun j hj => by
      rw [Addr.add_lit, Nat.zero_add, cell_of_row w g j cur _ _ hh]
      have : (cur.toList.take xs.length)[j]? = (bc xs)[j]? := by rw [ht]
      rw [List.getElem?_take, if_pos hj] at this
      rw [← Array.getElem?_toList, this]
      simp [bc, hj])
end Vc
end Go.Proofs.YtheopjcmhclgdaaGreatDoor

/- vcode.firstLine. -/
namespace Go.Proofs.YtheopjcmhclgdaaGreatDoor
open Go.RowKit
namespace Vc
set_option linter.unusedVariables false

theorem str_app (a b : List UInt8) : str a ++ str b = str (a ++ b) := by
  simp [str, ByteArray.mk_append_mk]
theorem Bd.mono {w : World} {B B' : Nat} {v : Value} {xs : List UInt8} (h : Bd w B v xs) (hB : B' ≤ B) : Bd w B' v xs := by
  rcases h with h | ⟨g, cap, cur, fz, e, hg, h4⟩
  · exact .inl h
  · exact .inr ⟨g, cap, cur, fz, e, Nat.le_trans hB hg, h4⟩
theorem cat {a b : List UInt8} {A B C : ByteArray} (hA : A = str a) (hB : B = str b) (hC : str (a ++ b) = C) (hl : a.length + b.length ≤ 1099511627776) (w : World) : (Op.stringOp .add A B).run Tryz.prog w = .ok (.string C) w := by
  rw [hA, hB, run_string_add_sum (P := Tryz.prog) w _ _ (by rw [str_size, str_size]; omega), str_app, hC]
def first (c : Co) : List UInt8 := [114, 101, 103, 115, 32] ++ dec c.re ++ [32, 112, 97, 114, 97, 109, 115, 32] ++ dec c.pa ++ (if c.rs then [32, 114, 101, 115, 117, 108, 116] else []) ++ [10]

set_option maxRecDepth 100000 in
set_option maxHeartbeats 1600000 in
theorem first_any (c : Co) (hp : i64 c.pa) (hr : i64 c.re) (v : Value) (hv : ∃ a n k, v = .slice a n k) (w : World) (hP : P10 w) :
    Calls Tryz.prog 27 #[.agg #[.int .i64 c.pa, .int .i64 c.re, .bool c.rs, v]] w fun e w' => ∃ a n k, e = .returned (.slice a n k) ∧ Bd w' w.heap.size (.slice a n k) (first c) ∧ Below w.heap.size w w' := by
  obtain ⟨va, vn, vk, rfl⟩ := hv
  have hI := fun n h W hW => itoa_any n h W hW
  have hcv := fun W l h => conv_bd W l h
  have l1 := dec_len c.pa hp
  have l2 := dec_len c.re hr
  generalize hF : first c = L at *
  have HF := hide hF; clear hF
  obtain ⟨pa, re, rs, bl⟩ := c
  simp only [first] at *
  have hI1 := fun W hW => itoa_any re hr W hW
  have hI2 := fun W hW => itoa_any pa hp W hW
  have HI1 := hide hI1; have HI2 := hide hI2; have HCv := hide hcv; have HP := hide hP
  clear hI1 hI2 hI hcv hP hp hr
  generalize hd1 : dec re = d1 at *
  generalize hd2 : dec pa = d2 at *
  clear hd1 hd2
  obtain ⟨D1, hD1⟩ : ∃ D, str d1 = D := ⟨_, rfl⟩
  obtain ⟨D2, hD2⟩ : ∃ D, str d2 = D := ⟨_, rfl⟩
  rw [hD1] at HI1
  rw [hD2] at HI2
  obtain ⟨S1, hS1⟩ : ∃ S, str ([114, 101, 103, 115, 32] ++ d1) = S := ⟨_, rfl⟩
  obtain ⟨S2, hS2⟩ : ∃ S, str ([114, 101, 103, 115, 32] ++ d1 ++ [32, 112, 97, 114, 97, 109, 115, 32]) = S := ⟨_, rfl⟩
  obtain ⟨S3, hS3⟩ : ∃ S, str ([114, 101, 103, 115, 32] ++ d1 ++ [32, 112, 97, 114, 97, 109, 115, 32] ++ d2) = S := ⟨_, rfl⟩
  have q1 := fun w => cat (A := ⟨#[114, 101, 103, 115, 32]⟩) (B := D1) (C := S1) rfl hD1.symm hS1 (by simp; omega) w
  have q2 := fun w => cat (A := S1) (B := ⟨#[32, 112, 97, 114, 97, 109, 115, 32]⟩) (C := S2) hS1.symm rfl hS2 (by simp; omega) w
  have q3 := fun w => cat (A := S2) (B := D2) (C := S3) hS2.symm hD2.symm hS3 (by simp; omega) w
  have HS3 := hide hS3
  clear hS1 hS2 hS3 hD1 hD2
  have hb0 := one_alloc w (.cells #[.int .i64 pa, .int .i64 re, .bool rs, .slice va vn vk] 53)
  have rB := heap_alloc_new w (.cells #[.int .i64 pa, .int .i64 re, .bool rs, .slice va vn vk] 53)
  go_enter Tryz.func27, Tryz.ntmps27
  go_wp2_with fail
  generalize w.alloc (.cells #[.int .i64 pa, .int .i64 re, .bool rs, .slice va vn vk] 53) = W at *
  have hlt : w.heap.size < W.heap.size := (Array.getElem?_eq_some_iff.1 rB).1
  have HBc := hide (Below.on hb0 (drewn W 1))
  have cells : ∀ W', Below W.heap.size W W' → W'.cell? ⟨w.heap.size, 0, none⟩ = some (.int .i64 pa) ∧ W'.cell? ⟨w.heap.size, 1, none⟩ = some (.int .i64 re) ∧ W'.cell? ⟨w.heap.size, 2, none⟩ = some (.bool rs) := by
    intro W' h
    have q := (h.block _ hlt).trans rB
    refine ⟨?_, ?_, ?_⟩ <;> (rw [cell_of_row W' _ _ _ _ _ q]; rfl)
  have CE := hide cells
  obtain ⟨c0, c1, c2⟩ := cells W (Below.refl _ _)
  have HW := hide (drewn W 1)
  have HB0 := hide hb0
  clear hb0 rB hlt cells
  go_region_held3 (fun w' => w'.cell? ⟨w.heap.size, 0, none⟩ = some (.int .i64 pa) ∧ w'.cell? ⟨w.heap.size, 1, none⟩ = some (.int .i64 re) ∧ w'.cell? ⟨w.heap.size, 2, none⟩ = some (.bool rs))
    (first | go_keep | exact hk)
    (first
      | (go_at_call_of 28 (Value.int .i64 re); refine (unhide HI1 _ (P10.below (unhide HP) (Below.on (unhide HB0) (unhide HW)))).mono ?_; rintro e w3 ⟨rfl, hb3⟩; have hk := unhide CE _ (Below.on (unhide HW) hb3); have HW := hide (Below.on (unhide HW) hb3); clear hb3)
      | (go_at_call_of 28 (Value.int .i64 pa); refine (unhide HI2 _ (P10.below (unhide HP) (Below.on (unhide HB0) (unhide HW)))).mono ?_; rintro e w4 ⟨rfl, hb3⟩; have hk := unhide CE _ (Below.on (unhide HW) hb3); have HW := hide (Below.on (unhide HW) hb3); clear hb3))
  clear q1 q2 q3 HI1 HI2
  have c2 := hk.2.2
  have HBW := hide (Below.on (unhide HB0) (unhide HW))
  clear hk
  cases rs with
  | true =>
    obtain ⟨S4, hS4⟩ : ∃ S, str ([114, 101, 103, 115, 32] ++ d1 ++ [32, 112, 97, 114, 97, 109, 115, 32] ++ d2 ++ [32, 114, 101, 115, 117, 108, 116]) = S := ⟨_, rfl⟩
    obtain ⟨S5, hS5⟩ : ∃ S, str ([114, 101, 103, 115, 32] ++ d1 ++ [32, 112, 97, 114, 97, 109, 115, 32] ++ d2 ++ [32, 114, 101, 115, 117, 108, 116] ++ [10]) = S := ⟨_, rfl⟩
    have q4 := fun w => cat (A := S3) (B := ⟨#[32, 114, 101, 115, 117, 108, 116]⟩) (C := S4) (unhide HS3).symm rfl hS4 (by simp; omega) w
    have q5 := fun w => cat (A := S4) (B := ⟨#[10]⟩) (C := S5) hS4.symm rfl hS5 (by simp; omega) w
    have hc5 := fun W => unhide HCv W _ (show ([114, 101, 103, 115, 32] ++ d1 ++ [32, 112, 97, 114, 97, 109, 115, 32] ++ d2 ++ [32, 114, 101, 115, 117, 108, 116] ++ [10]).length ≤ 1099511627776 by simp; omega)
    rw [hS5, show [114, 101, 103, 115, 32] ++ d1 ++ [32, 112, 97, 114, 97, 109, 115, 32] ++ d2 ++ [32, 114, 101, 115, 117, 108, 116] ++ [10] = L from unhide HF] at hc5
    have HC5 := hide hc5
    clear hS4 hS5 hc5
    go_upto_region 4 with fail
    obtain ⟨k, w5, hrun, hbd, hb5⟩ := unhide HC5 w4
    have HBd := hide (hbd.mono (unhide HBW).size); have HB5 := hide (Below.on (unhide HBW) hb5)
    clear hbd hb5
    go_wp2
    go_ret
    exact ⟨_, _, _, rfl, unhide HBd, unhide HB5⟩
  | false =>
    obtain ⟨S5, hS5⟩ : ∃ S, str ([114, 101, 103, 115, 32] ++ d1 ++ [32, 112, 97, 114, 97, 109, 115, 32] ++ d2 ++ [] ++ [10]) = S := ⟨_, rfl⟩
    have q5 := fun w => cat (A := S3) (B := ⟨#[10]⟩) (C := S5) (unhide HS3).symm rfl (by rw [← hS5]; simp) (by simp; omega) w
    have hc5 := fun W => unhide HCv W _ (show ([114, 101, 103, 115, 32] ++ d1 ++ [32, 112, 97, 114, 97, 109, 115, 32] ++ d2 ++ [] ++ [10]).length ≤ 1099511627776 by simp; omega)
    rw [hS5, show [114, 101, 103, 115, 32] ++ d1 ++ [32, 112, 97, 114, 97, 109, 115, 32] ++ d2 ++ [] ++ [10] = L from unhide HF] at hc5
    have HC5 := hide hc5
    clear hS5 hc5
    go_upto_region 4 with fail
    obtain ⟨k, w5, hrun, hbd, hb5⟩ := unhide HC5 w4
    have HBd := hide (hbd.mono (unhide HBW).size); have HB5 := hide (Below.on (unhide HBW) hb5)
    clear hbd hb5
    go_wp2
    go_ret
    exact ⟨_, _, _, rfl, unhide HBd, unhide HB5⟩
end Vc
end Go.Proofs.YtheopjcmhclgdaaGreatDoor

/- vcode.appendLine. -/
namespace Go.Proofs.YtheopjcmhclgdaaGreatDoor
open Go.RowKit
namespace Vc
set_option linter.unusedVariables false

/-- the tables, in blocks below B -/
structure Tbs (B : Nat) (w : World) : Prop where
  f : Fms w
  n : Nms w
  p : P10 w
  b0 : 4 < B
  b1 : 1 < B
  b2 : 2 < B
  b3 : 3 < B
  b4 : 5 < B
theorem TS.fr {w w' : World} {B g : Nat} {l : List (List UInt8)} (h : TS w g l) (hb : Below B w w') (hg : g < B) : TS w' g l := fun j s hj => (hb.cell (p := ⟨g, j, none⟩) hg).trans (h j s hj)
theorem Tbs.fr {w w' : World} {B : Nat} (h : Tbs B w) (hf : Below B w w') : Tbs B w' := by
  refine ⟨?_, ⟨TS.fr h.n.1 hf h.b1, TS.fr h.n.2.1 hf h.b2, TS.fr h.n.2.2 hf h.b3⟩, ?_, h.b0, h.b1, h.b2, h.b3, h.b4⟩
  · obtain ⟨h1, t, fr, h2⟩ := h.f
    have e := (hf.block _ h.b0).trans h2
    exact ⟨(Array.getElem?_eq_some_iff.1 e).1, t, fr, e⟩
  · have hg : Tryz.prog.globalNamed "internal/strconv.uint64pow10" = some 5 := by kernel_rfl
    have hp := h.p
    unfold P10 Lib.TabIs at *
    simp only [World.var?, hg, Option.bind_some] at hp ⊢
    rw [hf.block _ h.b4]
    exact hp
theorem Tbs.of {w : World} (h1 : Fms w) (h2 : Nms w) (h3 : P10 w) : Tbs w.heap.size w := by
  refine ⟨h1, h2, h3, h1.1, block_lt_of_cell (h2.1 0 _ rfl), block_lt_of_cell (h2.2.1 0 _ rfl), block_lt_of_cell (h2.2.2 0 _ rfl), ?_⟩
  have hg : Tryz.prog.globalNamed "internal/strconv.uint64pow10" = some 5 := by kernel_rfl
  unfold P10 Lib.TabIs at h3
  simp only [World.var?, hg, Option.bind_some] at h3
  rcases Nat.lt_or_ge 5 w.heap.size with h' | h'
  · exact h'
  · rw [Array.getElem?_eq_none h'] at h3; simp at h3
theorem NumsL.fr {w w' : World} {B : Nat} {g : Nat → Prop} {l : List Int} {v : Value} (h : NumsL w g l v) (hb : Below B w w') (hg : ∀ k, g k → k < B) : NumsL w' g l v := h.moved fun k _ hk => ⟨hk, hb.block k (hg k hk)⟩

def pGiv (d : Int) : List UInt8 := if d != -1 then [114] ++ dec d ++ [32, 61, 32] else []
def pSrc (l : List Int) : List UInt8 := l.flatMap fun r => [32, 114] ++ dec r
def pNum (op : Nat) (n : Int) : List UInt8 := if numd op then [32] ++ dec n else []
def pOf (op : Nat) (o : Int) : List UInt8 := if acc op then [32, 43] ++ dec o else []
def pTo (l : List Int) : List UInt8 := l.flatMap fun r => [32] ++ dec r
def pNext (op : Nat) (l : List Int) : List UInt8 := if ends op && decide (0 < l.length) then [32, 45, 62] ++ pTo l else []
def line (x : In) (next : List Int) : List UInt8 := [32, 32] ++ pGiv x.dst ++ nam x.op ++ pSrc x.src ++ pNum x.op x.n ++ pOf x.op x.of ++ pNext x.op next ++ [10]
/-- so far -/
def Iv (B : Nat) (W0 : World) (v : Value) (l : List UInt8) (wx : World) : Prop := ∃ a n c, v = .slice a n c ∧ Bd wx B (.slice a n c) l ∧ Fr B W0 wx
theorem fm_take (f : Int → List UInt8) (l : List Int) (j : Nat) (z : Int) (h : l[j]? = some z) : (l.take (j + 1)).flatMap f = (l.take j).flatMap f ++ f z := by
  have hj := (List.getElem?_eq_some_iff.1 h).1
  have hb : l[j] = z := (List.getElem?_eq_some_iff.1 h).2
  rw [List.take_succ_eq_append_getElem hj, hb, List.flatMap_append]; simp
theorem fm_le (f : Int → List UInt8) (l : List Int) (j : Nat) : ((l.take j).flatMap f).length ≤ (l.flatMap f).length := by
  conv => rhs; rw [← List.take_append_drop j l]
  rw [List.flatMap_append, List.length_append]; omega

set_option maxRecDepth 100000 in
set_option maxHeartbeats 6400000 in
theorem line_any (x : In) (hx : WfI x) (next : List Int) (hn : ∀ z ∈ next, i64 z) (hnl : next.length ≤ 1099511627776) (g : Nat → Prop) (vs vn vo : Value) (xs : List UInt8) (B : Nat) (w : World) (hT : Tbs B w)
    (hs : NumsL w g x.src vs) (hnx : NumsL w g next vn) (hg : ∀ k, g k → k < B) (hB : B ≤ w.heap.size) (hBd : Bd w B vo xs) (hlen : xs.length + (line x next).length ≤ 1099511627776) :
    Calls Tryz.prog 29 #[vo, .agg #[.int .u8 (x.op : Int), .int .i64 x.dst, vs, .int .i64 x.n, .int .u32 x.of], vn] w fun e w' => ∃ v', e = .returned v' ∧ Iv B w v' (xs ++ line x next) w' := by
  obtain ⟨L1, h1⟩ : ∃ L, xs ++ [32, 32] = L := ⟨_, rfl⟩
  obtain ⟨L2, h2⟩ : ∃ L, L1 ++ pGiv x.dst = L := ⟨_, rfl⟩
  obtain ⟨L3, h3⟩ : ∃ L, L2 ++ nam x.op = L := ⟨_, rfl⟩
  obtain ⟨L4, h4⟩ : ∃ L, L3 ++ pSrc x.src = L := ⟨_, rfl⟩
  obtain ⟨L5, h5⟩ : ∃ L, L4 ++ pNum x.op x.n = L := ⟨_, rfl⟩
  obtain ⟨L6, h6⟩ : ∃ L, L5 ++ pOf x.op x.of = L := ⟨_, rfl⟩
  obtain ⟨L7, h7⟩ : ∃ L, L6 ++ pNext x.op next = L := ⟨_, rfl⟩
  have h8 : xs ++ line x next = L7 ++ [10] := by rw [← h7, ← h6, ← h5, ← h4, ← h3, ← h2, ← h1]; simp [line]
  have hl8 : (L7 ++ [10]).length ≤ 1099511627776 := by rw [← h8, List.length_append]; exact hlen
  have l7 : L7.length + 1 ≤ 1099511627776 := by simpa using hl8
  have l6 : L6.length + (pNext x.op next).length = L7.length := by rw [← h7, List.length_append]
  have l5 : L5.length + (pOf x.op x.of).length = L6.length := by rw [← h6, List.length_append]
  have l4 : L4.length + (pNum x.op x.n).length = L5.length := by rw [← h5, List.length_append]
  have l3 : L3.length + (pSrc x.src).length = L4.length := by rw [← h4, List.length_append]
  have l2 : L2.length + (nam x.op).length = L3.length := by rw [← h3, List.length_append]
  have l1 : L1.length + (pGiv x.dst).length = L2.length := by rw [← h2, List.length_append]
  have l0 : xs.length + 2 = L1.length := by rw [← h1, List.length_append]; rfl
  rw [h8]
  have H1 := hide h1; have H2 := hide h2; have H3 := hide h3; have H4 := hide h4; have H5 := hide h5; have H6 := hide h6; have H7 := hide h7
  have E7 := hide l7; have E6 := hide l6; have E5 := hide l5; have E4 := hide l4; have E3 := hide l3; have E2 := hide l2; have E1 := hide l1; have E0 := hide l0
  generalize hL8 : L7 ++ [10] = L8 at *
  have H8 := hide hL8
  clear h1 h2 h3 h4 h5 h6 h7 h8 hl8 hL8 l7 l6 l5 l4 l3 l2 l1 l0 hlen
  have HNle := hide hnl; have HS := hide hs; have HNx := hide hnx; have HX := hide hx; have HN := hide hn; have HG := hide hg; have HBd := hide hBd; have HB := hide hB; have HT := hide hT
  have hgv := fun W => gives_any x vs W (by obtain ⟨a, c, e, _⟩ := hs; exact ⟨_, _, _, e⟩)
  have HGv := hide hgv
  obtain ⟨sa, sc, rfl, _⟩ := hs
  obtain ⟨na, nc, rfl, _⟩ := hnx
  obtain ⟨oa, oc, rfl, _⟩ := hBd.shape
  obtain ⟨op, dst, src, nn, of⟩ := x
  simp only at *
  have hop := (unhide HX).op; simp only at hop
  have hb0 := one_alloc w (.cells #[.int .u8 (op : Int), .int .i64 dst, .slice sa src.length sc, .int .i64 nn, .int .u32 of] 82)
  have rB := heap_alloc_new w (.cells #[.int .u8 (op : Int), .int .i64 dst, .slice sa src.length sc, .int .i64 nn, .int .u32 of] 82)
  clear hx hn hnl hg hB hBd hT hgv
  generalize hsl : src.length = sl at *
  generalize hnl : next.length = nl at *
  generalize hxl : xs.length = xl at *
  have HSl := hide hsl; have HNl := hide hnl; have HXl := hide hxl; clear hsl hnl hxl
  go_enter Tryz.func29, Tryz.ntmps29
  go_upto_region 1 with fail
  generalize w.alloc (.cells #[.int .u8 (op : Int), .int .i64 dst, .slice sa sl sc, .int .i64 nn, .int .u32 of] 82) = W0 at *
  have F0 : Fr B w W0 := Fr.of (unhide HB) hb0
  have hBW : B ≤ W0.heap.size := Nat.le_trans (unhide HB) hb0.size
  have hce : ∀ wx, Fr B W0 wx → w.heap.size < wx.heap.size ∧ wx.cell? ⟨w.heap.size, 0, none⟩ = some (.int .u8 (op : Int)) ∧ wx.cell? ⟨w.heap.size, 1, none⟩ = some (.int .i64 dst) ∧ wx.cell? ⟨w.heap.size, 2, none⟩ = some (.slice sa sl sc) ∧ wx.cell? ⟨w.heap.size, 3, none⟩ = some (.int .i64 nn) ∧ wx.cell? ⟨w.heap.size, 4, none⟩ = some (.int .u32 of) := by
    intro wx hf
    have q := hf.row (by decide) rB
    refine ⟨(Array.getElem?_eq_some_iff.1 q).1, ?_, ?_, ?_, ?_, ?_⟩ <;> (rw [cell_of_row wx _ _ _ _ _ q]; rfl)
  have hsz : ∀ wx, Fr B W0 wx → B ≤ wx.heap.size := fun wx hf => Nat.le_trans hBW hf.1.size
  have htb : ∀ wx, Fr B W0 wx → Tbs B wx := fun wx hf => ((unhide HT).fr F0.1).fr hf.1
  have hsr : ∀ wx, Fr B W0 wx → NumsL wx g src (.slice sa sl sc) := fun wx hf => ((unhide HS).fr F0.1 (unhide HG)).fr hf.1 (unhide HG)
  have hnr : ∀ wx, Fr B W0 wx → NumsL wx g next (.slice na nl nc) := fun wx hf => ((unhide HNx).fr F0.1 (unhide HG)).fr hf.1 (unhide HG)
  have HF0 := hide F0; have HCE := hide hce; have HSz := hide hsz; have HTb := hide htb; have HSr := hide hsr; have HNr := hide hnr
  have hbd0 := (unhide HBd).below hb0
  have HBd0 := hide hbd0; have HBW := hide hBW
  clear F0 hBW hce hsz htb hsr hnr rB hb0 hbd0 HBd HS HNx HT
  go_wp2_with (at_builtin; refine wp_app _ rfl (.tmp 11) (.const (.string ⟨#[32, 32]⟩)) rfl B _ xs [32, 32] rfl (unhide HBd0) rfl (by have := unhide E0; have := unhide E1; have := unhide E2; have := unhide E3; have := unhide E4; have := unhide E5; have := unhide E6; have := unhide E7; have := unhide HXl; simp; omega) (unhide HBW) ?_)
  intro a1 n1 c1 w1 hbd1 hfr1
  rw [unhide H1] at hbd1
  have HBd1 := hide hbd1; have HF1 := hide hfr1
  obtain ⟨z0, e0, e1, e2, e3, e4⟩ := unhide HCE _ hfr1
  clear hbd1 hfr1 HBd0
  go_wp2_with fail
  refine (unhide HGv _).mono ?_
  rintro e w2 ⟨rfl, hb2⟩
  have hfr2 : Fr B W0 w2 := (unhide HF1).on (Fr.of (unhide HSz _ (unhide HF1)) hb2)
  have HBd2 := hide ((unhide HBd1).below hb2); have HF2 := hide hfr2
  clear e0 e1 e2 e3 e4 z0 HBd1 HF1 hb2
  obtain ⟨z0, e0, e1, e2, e3, e4⟩ := unhide HCE _ hfr2
  clear hfr2
  go_upto_if 14 with fail
  go_cut [0] (fun v wx => Iv B W0 v L2 wx)
  case first =>
    cases hgd : (dst != -1) with
    | false =>
      have hL : L2 = L1 := by rw [← unhide H2]; simp [pGiv, hgd]
      have HL := hide hL; clear hL hgd
      go_wp2_with fail
      go_meet
      exact ⟨_, _, _, rfl, by rw [unhide HL]; exact unhide HBd2, unhide HF2⟩
    | true =>
      obtain ⟨d, hd⟩ : ∃ d, dec dst = d := ⟨_, rfl⟩
      obtain ⟨y1, hy1⟩ : ∃ y, [114] ++ d = y := ⟨_, rfl⟩
      obtain ⟨y2, hy2⟩ : ∃ y, y1 ++ [32, 61, 32] = y := ⟨_, rfl⟩
      have hg2 : pGiv dst = y2 := by rw [← hy2, ← hy1, ← hd]; simp [pGiv, hgd]
      have hdl := dec_len dst (unhide HX).dst
      rw [hd] at hdl
      have hyl : y1.length = d.length + 1 := by rw [← hy1, List.length_append, Nat.add_comm]; rfl
      have q1 := fun w => cat (A := ⟨#[114]⟩) (B := str d) (C := str y1) rfl rfl (by rw [hy1]) (by simp; omega) w
      have q2 := fun w => cat (A := str y1) (B := ⟨#[32, 61, 32]⟩) (C := str y2) rfl rfl (by rw [← hy2]) (by simp; omega) w
      have HL := hide (show L1 ++ y2 = L2 by rw [← hg2]; exact unhide H2)
      have EL := hide (show L1.length + y2.length = L2.length by rw [← unhide HL, List.length_append])
      clear hgd hy1 hy2 hg2 hdl hyl
      have hit := itoa_any dst (unhide HX).dst _ (unhide HTb _ (unhide HF2)).p
      rw [hd] at hit
      have HIt := hide hit; clear hit
      go_wp2_with fail
      refine (unhide HIt).mono ?_
      rintro e w3 ⟨rfl, hb3⟩
      have HF3 := hide (Fr.on (unhide HF2) (Fr.of (unhide HSz _ (unhide HF2)) hb3)); have HBd3 := hide (Bd.below (unhide HBd2) hb3)
      clear hb3 HIt
      clear hd
      obtain ⟨z0, e0, e1, e2, e3, e4⟩ := unhide HCE _ (unhide HF3)
      go_wp2_with (at_builtin; refine wp_app _ rfl (.tmp 15) (.tmp 20) rfl B _ L1 y2 rfl (unhide HBd3) rfl (by have := unhide E0; have := unhide E1; have := unhide E2; have := unhide E3; have := unhide E4; have := unhide E5; have := unhide E6; have := unhide E7; have := unhide EL; omega) (unhide HSz _ (unhide HF3)) ?_)
      intro a4 n4 c4 w4 hbd4 hfr4
      rw [unhide HL] at hbd4
      have HBd4 := hide hbd4; have HF4 := hide (Fr.on (unhide HF3) hfr4)
      clear hbd4 hfr4
      go_wp2_with fail
      go_meet
      exact ⟨_, _, _, rfl, unhide HBd4, unhide HF4⟩
  case rest =>
    obtain ⟨a5, n5, c5, rfl, hbd5, hfr5⟩ := hcut
    have HBd5 := hide hbd5; have HF5 := hide hfr5
    clear e0 e1 e2 e3 e4 z0 HBd2 HF2 hbd5
    obtain ⟨z0, e0, e1, e2, e3, e4⟩ := unhide HCE _ hfr5
    have hnm := nam_any op hop _ (unhide HTb _ hfr5).n
    obtain ⟨d, hd⟩ : ∃ d, nam op = d := ⟨_, rfl⟩
    rw [hd] at hnm
    have HL := hide (show L2 ++ d = L3 by rw [← hd]; exact unhide H3)
    have EL := hide (show L2.length + d.length = L3.length by rw [← unhide HL, List.length_append])
    have HNm := hide hnm
    clear hnm hd hfr5
    go_wp2_with fail
    refine (unhide HNm).mono ?_
    rintro e w6 ⟨rfl, rfl⟩
    go_wp2_with (at_builtin; refine wp_app _ rfl (.tmp 22) (.tmp 25) rfl B _ L2 d rfl (unhide HBd5) rfl (by have := unhide E0; have := unhide E1; have := unhide E2; have := unhide E3; have := unhide E4; have := unhide E5; have := unhide E6; have := unhide E7; have := unhide EL; omega) (unhide HSz _ (unhide HF5)) ?_)
    intro a6 n6 c6 w6 hbd6 hfr6
    rw [unhide HL] at hbd6
    have HBd6 := hide hbd6; have hF6 := Fr.on (unhide HF5) hfr6
    have HF6 := hide hF6
    clear e0 e1 e2 e3 e4 z0 hbd6 hfr6 HBd5 HF5 HNm HL EL
    obtain ⟨z0, e0, e1, e2, e3, e4⟩ := unhide HCE _ hF6
    clear hF6
    have hst := fun j z h => fm_take (fun r => [32, 114] ++ dec r) src j z h
    have hle := fun j => fm_le (fun r => [32, 114] ++ dec r) src j
    have HSt := hide hst; have HLe := hide hle; clear hst hle
    have hsl := (unhide HX).len; simp only at hsl; rw [unhide HSl] at hsl
    go_wp2_with fail
    go_loopw [0, 30] (fun v c wr => ∃ j : Nat, c = .int .i64 j ∧ (j : Int) ≤ sl ∧ Iv B W0 v (L3 ++ pSrc (src.take j)) wr) (fun _ c _ => sl - (intOf c).toNat)
    case atStart => exact ⟨0, rfl, by omega, _, _, _, rfl, by simpa [pSrc] using unhide HBd6, unhide HF6⟩
    case round =>
      obtain ⟨j, rfl, hj, a7, n7, c7, rfl, hbd7, hfr7⟩ := hrel
      have HBd7 := hide hbd7; have HF7 := hide hfr7
      clear e0 e1 e2 e3 e4 z0 hbd7
      obtain ⟨z0, e0, e1, e2, e3, e4⟩ := unhide HCE _ hfr7
      by_cases hlt : (j : Int) < sl
      · obtain ⟨z, hz⟩ : ∃ z, src[j]? = some z := ⟨_, List.getElem?_eq_getElem (by have := unhide HSl; omega)⟩
        have hmem : z ∈ src := List.mem_of_getElem? hz
        obtain ⟨_, _, esl, _, _, hsq⟩ := unhide HSr _ hfr7
        simp only [Value.slice.injEq] at esl
        obtain ⟨rfl, hq0, rfl⟩ := esl
        clear hq0
        obtain ⟨sb, so, rfl, _, hnum⟩ := hsq (by have := unhide HSl; omega)
        have cz : wr.cell? ⟨sb, so + j, none⟩ = some (.int .i64 z) := by
          have := hnum j (by have := unhide HSl; omega)
          rw [this]; simp [List.getD, hz]
        have hzi := (unhide HX).src z hmem
        obtain ⟨d, hd⟩ : ∃ d, dec z = d := ⟨_, rfl⟩
        obtain ⟨y, hy⟩ : ∃ y, [32, 114] ++ d = y := ⟨_, rfl⟩
        have hdl := dec_len z hzi
        rw [hd] at hdl
        have q1 := fun w => cat (A := ⟨#[32, 114]⟩) (B := str d) (C := str y) rfl rfl (by rw [hy]) (by simp; omega) w
        obtain ⟨P1, hP1⟩ : ∃ P, L3 ++ pSrc (src.take j) = P := ⟨_, rfl⟩
        have hP2 : L3 ++ pSrc (src.take (j + 1)) = P1 ++ y := by rw [← hP1]; unfold pSrc; rw [unhide HSt j z hz, hd, hy]; simp
        have hPl : P1.length + y.length ≤ L4.length := by
          have a1 := unhide HLe (j + 1); have a2 := unhide E3
          have a3 : (L3 ++ pSrc (src.take (j + 1))).length = P1.length + y.length := by rw [hP2, List.length_append]
          rw [List.length_append] at a3; unfold pSrc at a3 a2; omega
        rw [hP1] at HBd7
        have HP2 := hide hP2; have HPl := hide hPl
        clear hz hmem hsq hnum hdl hP1 hP2 hPl hj hy
        have hit := itoa_any z hzi _ (unhide HTb _ (unhide HF7)).p
        rw [hd] at hit
        have HIt := hide hit; clear hit
        go_wp2_with fail
        refine (unhide HIt).mono ?_
        rintro e w3 ⟨rfl, hb3⟩
        have HF3 := hide (Fr.on (unhide HF7) (Fr.of (unhide HSz _ (unhide HF7)) hb3)); have HBd3 := hide (Bd.below (unhide HBd7) hb3)
        clear hb3 HIt
        clear hd hzi hfr7
        go_wp2_with (at_builtin; refine wp_app _ rfl (.tmp 34) (.tmp 37) rfl B _ P1 y rfl (unhide HBd3) rfl (by have := unhide E0; have := unhide E1; have := unhide E2; have := unhide E3; have := unhide E4; have := unhide E5; have := unhide E6; have := unhide E7; have := unhide HPl; omega) (unhide HSz _ (unhide HF3)) ?_)
        intro a4 n4 c4 w4 hbd4 hfr4
        have HBd4 := hide hbd4; have HF4 := hide (Fr.on (unhide HF3) hfr4)
        clear hbd4 hfr4
        go_wp2
        go_roundw
        case rel => exact ⟨j + 1, by go_num, by omega, _, _, _, rfl, by rw [unhide HP2]; exact unhide HBd4, unhide HF4⟩
        case measure => simp [intOf]; omega
      · obtain rfl : j = sl := by omega
        have hbd8 : Bd wr B (.slice a7 n7 c7) L4 := by
          have := unhide HBd7
          rw [← unhide HSl, List.take_length] at this
          rw [← unhide H4]; exact this
        have HBd8 := hide hbd8
        clear hj hlt hbd8 HBd7 hfr7 HSt HLe
        have hnb := fun W => numd_any op hop W
        have HNb := hide hnb; clear hnb
        go_wp2_with fail
        refine (unhide HNb _).mono ?_
        rintro e w8 ⟨rfl, rfl⟩
        go_upto_if 42 with fail
        go_cut [0] (fun v wx => Iv B W0 v L5 wx)
        case first =>
          cases hq : numd op with
          | false =>
            have HL := hide (show L5 = L4 by rw [← unhide H5]; simp [pNum, hq])
            clear hq
            go_wp2_with fail
            go_meet
            exact ⟨_, _, _, rfl, by rw [unhide HL]; exact unhide HBd8, unhide HF7⟩
          | true =>
            obtain ⟨d, hd⟩ : ∃ d, dec nn = d := ⟨_, rfl⟩
            obtain ⟨y, hy⟩ : ∃ y, [32] ++ d = y := ⟨_, rfl⟩
            have hp : pNum op nn = y := by rw [← hy, ← hd]; simp [pNum, hq]
            have hdl := dec_len nn (unhide HX).n
            rw [hd] at hdl
            have q1 := fun w => cat (A := ⟨#[32]⟩) (B := str d) (C := str y) rfl rfl (by rw [hy]) (by simp; omega) w
            have HL := hide (show L4 ++ y = L5 by rw [← hp]; exact unhide H5)
            have EL := hide (show L4.length + y.length = L5.length by rw [← unhide HL, List.length_append])
            clear hq hy hp hdl
            have hit := fint_any nn (unhide HX).n _ (unhide HTb _ (unhide HF7)).p
            rw [hd] at hit
            have HIt := hide hit; clear hit
            go_wp2_with fail
            refine (unhide HIt).mono ?_
            rintro e w3 ⟨rfl, hb3⟩
            have HF3 := hide (Fr.on (unhide HF7) (Fr.of (unhide HSz _ (unhide HF7)) hb3)); have HBd3 := hide (Bd.below (unhide HBd8) hb3)
            clear hb3 HIt
            clear hd
            go_wp2_with (at_builtin; refine wp_app _ rfl (.tmp 43) (.tmp 47) rfl B _ L4 y rfl (unhide HBd3) rfl (by have := unhide E0; have := unhide E1; have := unhide E2; have := unhide E3; have := unhide E4; have := unhide E5; have := unhide E6; have := unhide E7; have := unhide EL; omega) (unhide HSz _ (unhide HF3)) ?_)
            intro a4 n4 c4 w4 hbd4 hfr4
            rw [unhide HL] at hbd4
            have HBd4 := hide hbd4; have HF4 := hide (Fr.on (unhide HF3) hfr4)
            clear hbd4 hfr4
            go_wp2_with fail
            go_meet
            exact ⟨_, _, _, rfl, unhide HBd4, unhide HF4⟩
        case rest =>
          obtain ⟨a9, n9, c9, rfl, hbd9, hfr9⟩ := hcut
          have HBd9 := hide hbd9; have HF9 := hide hfr9
          clear e0 e1 e2 e3 e4 z0 HBd8 HF7 hbd9 HNb
          obtain ⟨z0, e0, e1, e2, e3, e4⟩ := unhide HCE _ hfr9
          have HAc := hide (acc_any op hop _ (unhide HTb _ hfr9).f)
          clear hfr9
          go_wp2_with fail
          refine (unhide HAc).mono ?_
          rintro e w10 ⟨rfl, hb10⟩
          have hF10 := Fr.on (unhide HF9) (Fr.of (unhide HSz _ (unhide HF9)) hb10)
          have HF10 := hide hF10; have HBd10 := hide ((unhide HBd9).below hb10)
          clear e0 e1 e2 e3 e4 z0 HBd9 HF9 hb10 HAc
          obtain ⟨z0, e0, e1, e2, e3, e4⟩ := unhide HCE _ hF10
          clear hF10
          go_upto_if 51 with fail
          go_cut [0] (fun v wx => Iv B W0 v L6 wx)
          case first =>
            cases hq : acc op with
            | false =>
              have HL := hide (show L6 = L5 by rw [← unhide H6]; simp [pOf, hq])
              clear hq
              go_wp2_with fail
              go_meet
              exact ⟨_, _, _, rfl, by rw [unhide HL]; exact unhide HBd10, unhide HF10⟩
            | true =>
              obtain ⟨on, rfl⟩ : ∃ k : Nat, of = k := ⟨of.toNat, by have := (unhide HX).of0; simp only at this; omega⟩
              have hon : on < 4294967296 := by have := (unhide HX).of1; simp only at this; omega
              obtain ⟨d, hd⟩ : ∃ d, dec (on : Int) = d := ⟨_, rfl⟩
              obtain ⟨y, hy⟩ : ∃ y, [32, 43] ++ d = y := ⟨_, rfl⟩
              have hp : pOf op on = y := by rw [← hy, ← hd]; simp [pOf, hq]
              have hdl := dec_len (on : Int) ⟨by omega, by omega⟩
              rw [hd] at hdl
              have q1 := fun w => cat (A := ⟨#[32, 43]⟩) (B := str d) (C := str y) rfl rfl (by rw [hy]) (by simp; omega) w
              have HL := hide (show L5 ++ y = L6 by rw [← hp]; exact unhide H6)
              have EL := hide (show L5.length + y.length = L6.length by rw [← unhide HL, List.length_append])
              clear hq hy hp hdl
              have hit := fuint_any on hon _ (unhide HTb _ (unhide HF10)).p
              rw [hd] at hit
              have HIt := hide hit; clear hit
              go_wp2_with fail
              refine (unhide HIt).mono ?_
              rintro e w3 ⟨rfl, hb3⟩
              have HF3 := hide (Fr.on (unhide HF10) (Fr.of (unhide HSz _ (unhide HF10)) hb3)); have HBd3 := hide (Bd.below (unhide HBd10) hb3)
              clear hb3 HIt
              clear hd
              go_wp2_with (at_builtin; refine wp_app _ rfl (.tmp 52) (.tmp 57) rfl B _ L5 y rfl (unhide HBd3) rfl (by have := unhide E0; have := unhide E1; have := unhide E2; have := unhide E3; have := unhide E4; have := unhide E5; have := unhide E6; have := unhide E7; have := unhide EL; omega) (unhide HSz _ (unhide HF3)) ?_)
              intro a4 n4 c4 w4 hbd4 hfr4
              rw [unhide HL] at hbd4
              have HBd4 := hide hbd4; have HF4 := hide (Fr.on (unhide HF3) hfr4)
              clear hbd4 hfr4
              go_wp2_with fail
              go_meet
              exact ⟨_, _, _, rfl, unhide HBd4, unhide HF4⟩
          case rest =>
            obtain ⟨a11, n11, c11, rfl, hbd11, hfr11⟩ := hcut
            have HBd11 := hide hbd11; have HF11 := hide hfr11
            clear e0 e1 e2 e3 e4 z0 HBd10 HF10 hbd11
            obtain ⟨z0, e0, e1, e2, e3, e4⟩ := unhide HCE _ hfr11
            clear hfr11
            have HEn := hide (fun W => vends_any op hop W)
            have H7p := hide (show 0 < L7.length by have := unhide E0; have := unhide E1; have := unhide E2; have := unhide E3; have := unhide E4; have := unhide E5; have := unhide E6; have := unhide E7; omega)
            cases hen : ends op with
            | false =>
              rw [hen] at HEn
              have HL := hide (show L7 = L6 by rw [← unhide H7]; simp [pNext, hen])
              have HBd12 := hide (show Bd wc B (.slice a11 n11 c11) L7 by rw [unhide HL]; exact unhide HBd11)
              clear hen HBd11 HL
              go_wp2_with fail
              refine (unhide HEn _).mono ?_
              rintro e w12 ⟨rfl, rfl⟩
              have HBe := hide (Bd.below (unhide HBd12) (one_alloc _ (.cells #[.int .u8 10] 5)))
              have HFe := hide (Fr.on (unhide HF11) (Fr.of (unhide HSz _ (unhide HF11)) (one_alloc _ (.cells #[.int .u8 10] 5))))
              go_wp2_with (at_builtin; refine wp_appb _ rfl (.tmp 81) (.tmp 82) rfl B _ L7 [10] (unhide H7p) rfl (unhide HBe) _ 1 1 rfl rfl (cell_one_new _ _ _) (by have := unhide E0; have := unhide E1; have := unhide E2; have := unhide E3; have := unhide E4; have := unhide E5; have := unhide E6; have := unhide E7; simp; omega) (unhide HSz _ (unhide HFe)) ?_)
              intro a20 n20 c20 w20 hbd20 hfr20
              rw [unhide H8] at hbd20
              have HBd20 := hide hbd20; have HF20 := hide (Fr.on (unhide HF0) (Fr.on (unhide HFe) hfr20))
              clear hbd20 hfr20
              go_wp2
              go_ret
              exact ⟨_, rfl, _, _, _, rfl, unhide HBd20, unhide HF20⟩
            | true =>
              rw [hen] at HEn
              by_cases hn0 : nl = 0
              · subst hn0
                have hnil : next = [] := List.eq_nil_of_length_eq_zero (unhide HNl)
                have HL := hide (show L7 = L6 by rw [← unhide H7, hnil]; simp [pNext])
                have HBd12 := hide (show Bd wc B (.slice a11 n11 c11) L7 by rw [unhide HL]; exact unhide HBd11)
                clear hen HBd11 HL hnil
                go_wp2_with fail
                refine (unhide HEn _).mono ?_
                rintro e w12 ⟨rfl, rfl⟩
                have HBe := hide (Bd.below (unhide HBd12) (one_alloc _ (.cells #[.int .u8 10] 5)))
                have HFe := hide (Fr.on (unhide HF11) (Fr.of (unhide HSz _ (unhide HF11)) (one_alloc _ (.cells #[.int .u8 10] 5))))
                go_wp2_with (at_builtin; refine wp_appb _ rfl (.tmp 81) (.tmp 82) rfl B _ L7 [10] (unhide H7p) rfl (unhide HBe) _ 1 1 rfl rfl (cell_one_new _ _ _) (by have := unhide E0; have := unhide E1; have := unhide E2; have := unhide E3; have := unhide E4; have := unhide E5; have := unhide E6; have := unhide E7; simp; omega) (unhide HSz _ (unhide HFe)) ?_)
                intro a20 n20 c20 w20 hbd20 hfr20
                rw [unhide H8] at hbd20
                have HBd20 := hide hbd20; have HF20 := hide (Fr.on (unhide HF0) (Fr.on (unhide HFe) hfr20))
                clear hbd20 hfr20
                go_wp2
                go_ret
                exact ⟨_, rfl, _, _, _, rfl, unhide HBd20, unhide HF20⟩
              · have tn : decide ((nl : Int) > 0) = true := by simp; omega
                have tn2 : decide ((0 : Int) < nl) = true := by simp; omega
                have tn3 : (0 : Int) < nl := by omega
                have hp : pNext op next = [32, 45, 62] ++ pTo next := by unfold pNext; rw [hen, unhide HNl]; simp; omega
                obtain ⟨M1, hM1⟩ : ∃ M, L6 ++ [32, 45, 62] = M := ⟨_, rfl⟩
                have HM2 := hide (show M1 ++ pTo next = L7 by rw [← hM1, List.append_assoc, ← hp]; exact unhide H7)
                have HMl := hide (show L6.length + 3 = M1.length by rw [← hM1, List.length_append]; rfl)
                have HMm := hide (show M1.length + (pTo next).length = L7.length by rw [← unhide HM2, List.length_append])
                have HM1 := hide hM1
                clear hen hp hM1 hn0
                go_wp2_with fail
                refine (unhide HEn _).mono ?_
                rintro e w12 ⟨rfl, rfl⟩
                go_wp2_with (at_builtin; refine wp_app _ rfl (.tmp 67) (.const (.string ⟨#[32, 45, 62]⟩)) rfl B _ L6 [32, 45, 62] rfl (unhide HBd11) rfl (by have := unhide E0; have := unhide E1; have := unhide E2; have := unhide E3; have := unhide E4; have := unhide E5; have := unhide E6; have := unhide E7; have := unhide HMl; have := unhide HMm; simp; omega) (unhide HSz _ (unhide HF11)) ?_)
                intro a13 n13 c13 w13 hbd13 hfr13
                rw [unhide HM1] at hbd13
                have HBd13 := hide hbd13; have HF13 := hide (Fr.on (unhide HF11) hfr13)
                clear e0 e1 e2 e3 e4 z0 HBd11 HF11 hbd13 hfr13
                have hst := fun j z h => fm_take (fun r => [32] ++ dec r) next j z h
                have hle := fun j => fm_le (fun r => [32] ++ dec r) next j
                have HSt := hide hst; have HLe := hide hle; clear hst hle
                have hnle := unhide HNle
                go_wp2_with fail
                go_loopw [0, 71] (fun v c wr => ∃ j : Nat, c = .int .i64 j ∧ (j : Int) ≤ nl ∧ Iv B W0 v (M1 ++ pTo (next.take j)) wr) (fun _ c _ => nl - (intOf c).toNat)
                case atStart => exact ⟨0, rfl, by omega, _, _, _, rfl, by simpa [pTo] using unhide HBd13, unhide HF13⟩
                case round =>
                  obtain ⟨j, rfl, hj, a14, n14, c14, rfl, hbd14, hfr14⟩ := hrel
                  have HBd14 := hide hbd14; have HF14 := hide hfr14
                  clear hbd14
                  by_cases hlt : (j : Int) < nl
                  · obtain ⟨z, hz⟩ : ∃ z, next[j]? = some z := ⟨_, List.getElem?_eq_getElem (by have := unhide HNl; omega)⟩
                    have hmem : z ∈ next := List.mem_of_getElem? hz
                    obtain ⟨_, _, esl, _, _, hsq⟩ := unhide HNr _ hfr14
                    simp only [Value.slice.injEq] at esl
                    obtain ⟨rfl, hq0, rfl⟩ := esl
                    clear hq0
                    obtain ⟨sb, so, rfl, _, hnum⟩ := hsq (by have := unhide HNl; omega)
                    have cz : wr.cell? ⟨sb, so + j, none⟩ = some (.int .i64 z) := by
                      have := hnum j (by have := unhide HNl; omega)
                      rw [this]; simp [List.getD, hz]
                    have hzi := unhide HN z hmem
                    obtain ⟨d, hd⟩ : ∃ d, dec z = d := ⟨_, rfl⟩
                    obtain ⟨y, hy⟩ : ∃ y, [32] ++ d = y := ⟨_, rfl⟩
                    have hdl := dec_len z hzi
                    rw [hd] at hdl
                    have q1 := fun w => cat (A := ⟨#[32]⟩) (B := str d) (C := str y) rfl rfl (by rw [hy]) (by simp; omega) w
                    obtain ⟨P1, hP1⟩ : ∃ P, M1 ++ pTo (next.take j) = P := ⟨_, rfl⟩
                    have hP2 : M1 ++ pTo (next.take (j + 1)) = P1 ++ y := by rw [← hP1]; unfold pTo; rw [unhide HSt j z hz, hd, hy]; simp
                    have hPl : P1.length + y.length ≤ L7.length := by
                      have a1 := unhide HLe (j + 1); have a2 := unhide HMm
                      have a3 : (M1 ++ pTo (next.take (j + 1))).length = P1.length + y.length := by rw [hP2, List.length_append]
                      rw [List.length_append] at a3; unfold pTo at a3 a2; omega
                    rw [hP1] at HBd14
                    have HP2 := hide hP2; have HPl := hide hPl
                    clear hz hmem hsq hnum hdl hP1 hP2 hPl hj hy
                    have hit := itoa_any z hzi _ (unhide HTb _ (unhide HF14)).p
                    rw [hd] at hit
                    have HIt := hide hit; clear hit
                    go_wp2_with fail
                    refine (unhide HIt).mono ?_
                    rintro e w3 ⟨rfl, hb3⟩
                    have HF3 := hide (Fr.on (unhide HF14) (Fr.of (unhide HSz _ (unhide HF14)) hb3)); have HBd3 := hide (Bd.below (unhide HBd14) hb3)
                    clear hb3 HIt
                    clear hd hzi hfr14
                    go_wp2_with (at_builtin; refine wp_app _ rfl (.tmp 75) (.tmp 78) rfl B _ P1 y rfl (unhide HBd3) rfl (by have := unhide E0; have := unhide E1; have := unhide E2; have := unhide E3; have := unhide E4; have := unhide E5; have := unhide E6; have := unhide E7; have := unhide HPl; omega) (unhide HSz _ (unhide HF3)) ?_)
                    intro a4 n4 c4 w4 hbd4 hfr4
                    have HBd4 := hide hbd4; have HF4 := hide (Fr.on (unhide HF3) hfr4)
                    clear hbd4 hfr4
                    go_wp2
                    go_roundw
                    case rel => exact ⟨j + 1, by go_num, by omega, _, _, _, rfl, by rw [unhide HP2]; exact unhide HBd4, unhide HF4⟩
                    case measure => simp [intOf]; omega
                  · obtain rfl : j = nl := by omega
                    have hbd15 : Bd wr B (.slice a14 n14 c14) L7 := by
                      have := unhide HBd14
                      rw [← unhide HNl, List.take_length] at this
                      rw [← unhide HM2]; exact this
                    have HBd15 := hide hbd15
                    clear hj hlt hbd15 HBd14 hfr14 HSt HLe
                    have HBe := hide (Bd.below (unhide HBd15) (one_alloc _ (.cells #[.int .u8 10] 5)))
                    have HFe := hide (Fr.on (unhide HF14) (Fr.of (unhide HSz _ (unhide HF14)) (one_alloc _ (.cells #[.int .u8 10] 5))))
                    go_wp2_with (at_builtin; refine wp_appb _ rfl (.tmp 81) (.tmp 82) rfl B _ L7 [10] (unhide H7p) rfl (unhide HBe) _ 1 1 rfl rfl (cell_one_new _ _ _) (by have := unhide E0; have := unhide E1; have := unhide E2; have := unhide E3; have := unhide E4; have := unhide E5; have := unhide E6; have := unhide E7; simp; omega) (unhide HSz _ (unhide HFe)) ?_)
                    intro a20 n20 c20 w20 hbd20 hfr20
                    rw [unhide H8] at hbd20
                    have HBd20 := hide hbd20; have HF20 := hide (Fr.on (unhide HF0) (Fr.on (unhide HFe) hfr20))
                    clear hbd20 hfr20
                    go_wp2
                    go_ret
                    exact ⟨_, rfl, _, _, _, rfl, unhide HBd20, unhide HF20⟩
end Vc
end Go.Proofs.YtheopjcmhclgdaaGreatDoor

/- vcode.Text. -/
namespace Go.Proofs.YtheopjcmhclgdaaGreatDoor
open Go.RowKit
namespace Vc
set_option linter.unusedVariables false

theorem ret_se {a b : ByteArray} {u v : Value} (h : a = b) (h2 : u = v) : Ending.returned (.tuple #[.string a, u]) = .returned (.tuple #[.string b, v]) := by rw [h, h2]
def hdB (i : Int) (d : Int) : List UInt8 := [98, 108, 111, 99, 107, 32] ++ dec i ++ [32, 100, 101, 112, 116, 104, 32] ++ dec d ++ [10]
def insT (l : List In) (next : List Int) : List UInt8 := l.flatMap fun x => line x next
def txtB : Nat → List Bl → List UInt8
  | _, [] => []
  | i, b :: r => (hdB i b.dep ++ insT b.ins b.next) ++ txtB (i + 1) r
theorem txtB_snoc (b : Bl) : ∀ (l : List Bl) (i : Nat), txtB i (l ++ [b]) = txtB i l ++ (hdB ((i + l.length : Nat) : Int) b.dep ++ insT b.ins b.next)
  | [], i => by simp [txtB]
  | x :: r, i => by
    rw [List.cons_append, txtB, txtB_snoc b r (i + 1), txtB, List.length_cons, show i + 1 + r.length = i + (r.length + 1) by omega]; simp
theorem txtB_take (l : List Bl) (j : Nat) (b : Bl) (h : l[j]? = some b) : txtB 0 (l.take (j + 1)) = txtB 0 (l.take j) ++ (hdB (j : Int) b.dep ++ insT b.ins b.next) := by
  have hj := (List.getElem?_eq_some_iff.1 h).1
  have hb : l[j] = b := (List.getElem?_eq_some_iff.1 h).2
  have hl : (l.take j).length = j := by rw [List.length_take]; omega
  rw [List.take_succ_eq_append_getElem hj, hb, txtB_snoc, hl, Nat.zero_add]
theorem txtB_app : ∀ (l r : List Bl) (i : Nat), (txtB i l).length ≤ (txtB i (l ++ r)).length
  | [], r, i => by simp [txtB]
  | x :: l, r, i => by
    have := txtB_app l r (i + 1)
    simp only [List.cons_append, txtB, List.length_append]; omega
theorem txtB_le (l : List Bl) (j : Nat) : (txtB 0 (l.take j)).length ≤ (txtB 0 l).length := by
  have := txtB_app (l.take j) (l.drop j) 0
  rwa [List.take_append_drop] at this
def txt (c : Co) : List UInt8 := first c ++ txtB 0 c.bl
theorem it_take (l : List In) (next : List Int) (j : Nat) (z : In) (h : l[j]? = some z) : insT (l.take (j + 1)) next = insT (l.take j) next ++ line z next := by
  have hj := (List.getElem?_eq_some_iff.1 h).1
  have hb : l[j] = z := (List.getElem?_eq_some_iff.1 h).2
  unfold insT
  rw [List.take_succ_eq_append_getElem hj, hb, List.flatMap_append]; simp
theorem it_le (l : List In) (next : List Int) (j : Nat) : (insT (l.take j) next).length ≤ (insT l next).length := by
  unfold insT
  conv => rhs; rw [← List.take_append_drop j l]
  rw [List.flatMap_append, List.length_append]; omega
/-- what Text gives -/
def txS (c : Co) : List UInt8 := if chk c then (if (txt c).length ≤ 65536 then txt c else []) else []
def txE (c : Co) : Int := if chk c then (if (txt c).length ≤ 65536 then 0 else 2) else 1
theorem errV_2 : errV 2 = .iface 90 (.int .i64 2) := by simp [errV]

set_option maxRecDepth 100000 in
set_option maxHeartbeats 6400000 in
theorem text_any (c : Co) (hc : WfC c) (g : Nat → Prop) (v : Value) (w : World) (hT : Fms w) (hN : Nms w) (hP : P10 w) (hv : Bls w g c.bl v) (hg : ∀ k, g k → k < w.heap.size) (hz : siz c.bl ≤ 1099511627776) (hl : (txt c).length ≤ 1099511627776) :
    Calls Tryz.prog 13 #[.agg #[.int .i64 c.pa, .int .i64 c.re, .bool c.rs, v]] w fun e w' => e = .returned (.tuple #[.string (str (txS c)), errV (txE c)]) ∧ Below w.heap.size w w' := by
  have hK := fun W a b => check_any c hc g v W a b hz
  have hF := fun W a => first_any c hc.pa hc.re v (by obtain ⟨a, k, e, _⟩ := hv; exact ⟨_, _, _, e⟩) W a
  have hL : (first c).length + (txtB 0 c.bl).length ≤ 1099511627776 := by rw [← List.length_append]; exact hl
  have hlen := hc.len
  have HTb := hide (Tbs.of hT hN hP)
  have HV := hide hv; have HG := hide hg; have HC := hide hc
  have hS : txS c = if chk c then (if (txt c).length ≤ 65536 then txt c else []) else [] := rfl
  have hE : txE c = if chk c then (if (txt c).length ≤ 65536 then 0 else 2) else 1 := rfl
  have hbt := fun j b h => txtB_take c.bl j b h
  have hbl := fun j => txtB_le c.bl j
  have ht : first c ++ txtB 0 c.bl = txt c := rfl
  obtain ⟨a, cp, rfl, hcp, _, hA⟩ := hv
  obtain ⟨F1, hF1⟩ : ∃ F, first c = F := ⟨_, rfl⟩
  obtain ⟨T1, hT1⟩ : ∃ T, txt c = T := ⟨_, rfl⟩
  rw [hF1] at hF hL ht
  rw [hT1] at hS hE ht
  have HK := hide hK; have HF := hide hF; have HL := hide hL; have HS := hide hS; have HE := hide hE; have HA := hide hA; have HBt := hide hbt; have HBl := hide hbl; have HTt := hide ht
  clear hK hF hL hS hE hA hT hN hP hg hz hl hbt hbl ht hF1 hT1
  generalize txS c = SS at *
  generalize txE c = EE at *
  have hb0 := one_alloc w (.cells #[.int .i64 c.pa, .int .i64 c.re, .bool c.rs, .slice a c.bl.length cp] 53)
  have rB := heap_alloc_new w (.cells #[.int .i64 c.pa, .int .i64 c.re, .bool c.rs, .slice a c.bl.length cp] 53)
  have hk0 := unhide HK _ (TC.below (unhide HTb).f hb0) ((unhide HV).below hb0)
  generalize hck : chk c = K at *
  have HCk := hide hck; clear hck
  have HK0 := hide hk0; clear hk0 HK
  clear hc
  obtain ⟨pa, re, rs, bl⟩ := c
  simp only at *
  generalize hnb : bl.length = n at *
  have HNb := hide hnb; clear hnb
  cases K with
  | false =>
    simp only [Bool.false_eq_true, if_false] at HK0 HS HE
    rw [errV_1] at HK0
    have HB0 := hide hb0
    have HSS := hide (show str SS = ⟨#[]⟩ by rw [unhide HS]; rfl)
    have HEE := hide (show errV EE = .iface 90 (.int .i64 1) by rw [unhide HE]; exact errV_1)
    clear hb0 rB
    go_enter Tryz.func13, Tryz.ntmps13
    go_wp2_with fail
    refine (unhide HK0).mono ?_
    rintro e w1 ⟨rfl, hb1⟩
    have HB1 := hide (Below.on (unhide HB0) hb1); clear hb1
    go_wp2
    go_ret2
    exact ⟨ret_se (unhide HSS).symm (unhide HEE).symm, unhide HB1⟩
  | true =>
    simp only [if_true] at HK0 HS HE
    rw [errV_0] at HK0
    go_enter Tryz.func13, Tryz.ntmps13
    go_wp2_with fail
    refine (unhide HK0).mono ?_
    rintro e w1 ⟨rfl, hb1⟩
    generalize w.alloc (.cells #[.int .i64 pa, .int .i64 re, .bool rs, .slice a n cp] 53) = W0 at *
    have hBW : w.heap.size ≤ W0.heap.size := hb0.size
    have hce : ∀ wx, Fr w.heap.size W0 wx → w.heap.size < wx.heap.size ∧ wx.cell? ⟨w.heap.size, 0, none⟩ = some (.int .i64 pa) ∧ wx.cell? ⟨w.heap.size, 1, none⟩ = some (.int .i64 re) ∧ wx.cell? ⟨w.heap.size, 2, none⟩ = some (.bool rs) ∧ wx.cell? ⟨w.heap.size, 3, none⟩ = some (.slice a n cp) := by
      intro wx hf
      have q := hf.row (by decide) rB
      refine ⟨(Array.getElem?_eq_some_iff.1 q).1, ?_, ?_, ?_, ?_⟩ <;> (rw [cell_of_row wx _ _ _ _ _ q]; rfl)
    have hsz : ∀ wx, Fr w.heap.size W0 wx → w.heap.size ≤ wx.heap.size := fun wx hf => Nat.le_trans hBW hf.1.size
    have htb : ∀ wx, Fr w.heap.size W0 wx → Tbs w.heap.size wx := fun wx hf => ((unhide HTb).fr hb0).fr hf.1
    have hlo : ∀ wx, Fr w.heap.size W0 wx → Below w.heap.size w wx := fun wx hf => hb0.trans hf.1
    have F1' : Fr w.heap.size W0 w1 := Fr.of hBW hb1
    have HCE := hide hce; have HSz := hide hsz; have HTB := hide htb; have HLo := hide hlo; have HF1 := hide F1'
    obtain ⟨z0, k0, k1, k2, k3⟩ := hce w1 F1'
    have HFi := hide (unhide HF w1 (htb w1 F1').p)
    clear hBW hce hsz htb hlo F1' hb0 hb1 rB HK0 HF
    go_wp2_with fail
    refine (unhide HFi).mono ?_
    rintro e w2 ⟨a2, n2, c2, rfl, hbd2, hb2⟩
    have hF2 := Fr.on (unhide HF1) (Fr.of (unhide HSz _ (unhide HF1)) hb2)
    have HBd2 := hide (hbd2.mono (unhide HSz _ (unhide HF1))); have HF2 := hide hF2
    clear k0 k1 k2 k3 z0 hbd2 hb2 HFi HF1
    obtain ⟨z0, k0, k1, k2, k3⟩ := unhide HCE _ hF2
    clear hF2
    go_wp2_with fail
    go_loopw [5, 20] (fun v c wr => ∃ j : Nat, c = .int .i64 j ∧ (j : Int) ≤ n ∧ Iv w.heap.size W0 v (F1 ++ txtB 0 (bl.take j)) wr) (fun _ c _ => n - (intOf c).toNat)
    case atStart => exact ⟨0, rfl, by omega, _, _, _, rfl, by simpa [txtB] using unhide HBd2, unhide HF2⟩
    case round =>
      obtain ⟨j, rfl, hj, a3, n3, c3, rfl, hbd3, hfr3⟩ := hrel
      have HBd3 := hide hbd3; have HF3 := hide hfr3
      clear k0 k1 k2 k3 z0 hbd3
      obtain ⟨z0, k0, k1, k2, k3⟩ := unhide HCE _ hfr3
      by_cases hlt : (j : Int) < n
      · obtain ⟨x, hx⟩ : ∃ x, bl[j]? = some x := ⟨_, List.getElem?_eq_getElem (by have := unhide HNb; omega)⟩
        have hmem : x ∈ bl := List.mem_of_getElem? hx
        have hlow := unhide HLo _ hfr3
        obtain ⟨b, o, rfl, hgb, hblt, hit⟩ := unhide HA (by omega)
        obtain ⟨cs, hcl, ⟨vi, vn, rfl, hi, hn⟩, hce⟩ := hit j x hx
        have cc := fun i u hu => (hlow.cell (p := ⟨b, o + j * 3 + i, none⟩) hblt).trans (hce i u hu)
        have e0 := cc 0 _ rfl; have e1 := cc 1 _ rfl; have e2 := cc 2 _ rfl
        simp only [Nat.add_zero] at e0
        have hb1 : b < wr.heap.size := World.block_lt_of_cell? wr _ e0
        have HI := hide hi; have HN := hide hn
        have hwf := (unhide HC).bl x hmem
        obtain ⟨ai, ci, rfl, _, _, hii⟩ := hi
        obtain ⟨an, cn, rfl, _⟩ := hn
        have HII := hide hii
        have hq := unhide HBt j x hx
        have hq2 := unhide HBl (j + 1)
        have HWf := hide hwf; have HLw := hide hlow
        obtain ⟨P1, hP1⟩ : ∃ P, F1 ++ txtB 0 (bl.take j) = P := ⟨_, rfl⟩
        have hP2 : F1 ++ txtB 0 (bl.take (j + 1)) = P1 ++ (hdB (j : Int) x.dep ++ insT x.ins x.next) := by rw [hq, ← hP1]; simp
        have hPl : P1.length + ((hdB (j : Int) x.dep).length + (insT x.ins x.next).length) ≤ 1099511627776 := by
          have a1 : (F1 ++ txtB 0 (bl.take (j + 1))).length = P1.length + ((hdB (j : Int) x.dep).length + (insT x.ins x.next).length) := by rw [hP2]; simp
          rw [List.length_append] at a1; have := unhide HL; omega
        rw [hP1] at HBd3
        have HP2 := hide hP2; have HPl := hide hPl
        clear hx hit hcl hce cc hmem hq hq2 hP1 hP2 hPl hlow hii hwf
        obtain ⟨ins, next, dep⟩ := x
        simp only at *
        obtain ⟨H1, hH1⟩ : ∃ H, hdB (j : Int) dep = H := ⟨_, rfl⟩
        rw [hH1] at HP2 HPl
        have hdep := (unhide HWf).dep; simp only at hdep
        have hji : i64 (j : Int) := ⟨by omega, by omega⟩
        have hI1 := fun W hW => itoa_any (j : Int) hji W hW
        have hI2 := fun W hW => itoa_any dep hdep W hW
        have dl1 := dec_len _ hji; have dl2 := dec_len _ hdep
        obtain ⟨d1, hd1⟩ : ∃ d, dec (j : Int) = d := ⟨_, rfl⟩
        obtain ⟨d2, hd2⟩ : ∃ d, dec dep = d := ⟨_, rfl⟩
        rw [hd1] at hI1 dl1
        rw [hd2] at hI2 dl2
        obtain ⟨s1, hs1⟩ : ∃ s, [98, 108, 111, 99, 107, 32] ++ d1 = s := ⟨_, rfl⟩
        obtain ⟨s2, hs2⟩ : ∃ s, s1 ++ [32, 100, 101, 112, 116, 104, 32] = s := ⟨_, rfl⟩
        obtain ⟨s3, hs3⟩ : ∃ s, s2 ++ d2 = s := ⟨_, rfl⟩
        have hH2 : s3 ++ [10] = H1 := by rw [← hs3, ← hs2, ← hs1, ← hH1, ← hd1, ← hd2]; simp [hdB]
        have ll1 : s1.length ≤ 30 := by rw [← hs1]; simp; omega
        have ll2 : s2.length ≤ 40 := by rw [← hs2]; simp; omega
        have ll3 : s3.length ≤ 70 := by rw [← hs3]; simp; omega
        have q1 := fun w => cat (A := ⟨#[98, 108, 111, 99, 107, 32]⟩) (B := str d1) (C := str s1) rfl rfl (by rw [hs1]) (by simp; omega) w
        have q2 := fun w => cat (A := str s1) (B := ⟨#[32, 100, 101, 112, 116, 104, 32]⟩) (C := str s2) rfl rfl (by rw [← hs2]) (by simp; omega) w
        have q3 := fun w => cat (A := str s2) (B := str d2) (C := str s3) rfl rfl (by rw [← hs3]) (by omega) w
        have q4 := fun w => cat (A := str s3) (B := ⟨#[10]⟩) (C := str H1) rfl rfl (by rw [← hH2]) (by simp; omega) w
        have HI1 := hide hI1; have HI2 := hide hI2
        clear hI1 hI2 dl1 dl2 hd1 hd2 hs1 hs2 hs3 hH1 hH2 ll1 ll2 ll3 hji hdep
        generalize hil : ins.length = il at *
        generalize hnl : next.length = nl at *
        have Hil := hide hil; have Hnl := hide hnl; clear hil hnl
        go_upto_region 8 with fail
        have hal := one_alloc wr (.cells #[.slice ai il ci, .slice an nl cn, .int .i64 dep] 85)
        have rn := heap_alloc_new wr (.cells #[.slice ai il ci, .slice an nl cn, .int .i64 dep] 85)
        generalize wr.alloc (.cells #[.slice ai il ci, .slice an nl cn, .int .i64 dep] 85) = W1 at *
        have FW1 : Fr w.heap.size W0 W1 := Fr.on hfr3 (Fr.of (unhide HSz _ hfr3) hal)
        have hbce : ∀ wx, Fr w.heap.size W1 wx → wr.heap.size < wx.heap.size ∧ wx.cell? ⟨wr.heap.size, 0, none⟩ = some (.slice ai il ci) ∧ wx.cell? ⟨wr.heap.size, 1, none⟩ = some (.slice an nl cn) ∧ wx.cell? ⟨wr.heap.size, 2, none⟩ = some (.int .i64 dep) := by
          intro wx hf
          have q := hf.row (by decide) rn
          refine ⟨(Array.getElem?_eq_some_iff.1 q).1, ?_, ?_, ?_⟩ <;> (rw [cell_of_row wx _ _ _ _ _ q]; rfl)
        have HBCE := hide hbce; have HFW1 := hide FW1
        have HBdW := hide ((unhide HBd3).below hal)
        have HWc := hide (Fr.of (unhide HSz _ FW1) (drewn W1 1))
        have HBdc := hide ((unhide HBdW).below (drewn W1 1))
        obtain ⟨b0, b1, b2, b3⟩ := hbce W1 (Fr.refl _ _)
        clear e0 e1 e2 k0 k1 k2 k3 z0 hal rn hbce FW1 hb1 hfr3
        generalize wr.heap.size = NB at *
        go_region_held3 (fun w' => w'.cell? ⟨NB, 2, none⟩ = some (.int .i64 dep))
          (first | go_keep | exact hk)
          (first
            | (go_at_call_of 28 (Value.int .i64 (j : Int)); refine (unhide HI1 _ (unhide HTB _ (Fr.on (unhide HFW1) (unhide HWc))).p).mono ?_; rintro e w5 ⟨rfl, hb5⟩; have HBdc := hide (Bd.below (unhide HBdc) hb5); have HWc := hide (Fr.on (unhide HWc) (Fr.of (unhide HSz _ (Fr.on (unhide HFW1) (unhide HWc))) hb5)); clear hb5; have hk := (unhide HBCE _ (unhide HWc)).2.2.2)
            | (go_at_call_of 28 (Value.int .i64 dep); refine (unhide HI2 _ (unhide HTB _ (Fr.on (unhide HFW1) (unhide HWc))).p).mono ?_; rintro e w6 ⟨rfl, hb6⟩; have HBdc := hide (Bd.below (unhide HBdc) hb6); have HWc := hide (Fr.on (unhide HWc) (Fr.of (unhide HSz _ (Fr.on (unhide HFW1) (unhide HWc))) hb6)); clear hb6; have hk := (unhide HBCE _ (unhide HWc)).2.2.2)
            | (refine step_app _ (by rfl) _ _ (by rfl) w.heap.size _ P1 H1 (by rfl) (unhide HBdc) (by rfl) (by have := unhide HPl; omega) (unhide HSz _ (Fr.on (unhide HFW1) (unhide HWc))) ?_; intro a7 n7 c7 w7 hbd7 hfr7; have HBd7 := hide hbd7; have HF7 := hide (Fr.on (unhide HWc) hfr7); clear hbd7 hfr7; have hk := (unhide HBCE _ (unhide HF7)).2.2.2)
            | fail)
        clear hk HWc HBdc HBdW HI1 HI2 q1 q2 q3 q4
        obtain ⟨Q1, hQ1⟩ : ∃ Q, P1 ++ H1 = Q := ⟨_, rfl⟩
        rw [hQ1] at HBd7
        have HP3 := hide (show F1 ++ txtB 0 (bl.take (j + 1)) = Q1 ++ insT ins next by rw [unhide HP2, ← hQ1]; simp)
        have HPl2 := hide (show Q1.length + (insT ins next).length ≤ 1099511627776 by rw [← hQ1, List.length_append]; have := unhide HPl; omega)
        clear hQ1 HP2 HPl b0 b1 b2 b3
        have hit := fun k z h => it_take ins next k z h
        have hil2 := fun k => it_le ins next k
        have HIt := hide hit; have HIl2 := hide hil2; clear hit hil2
        obtain ⟨b0, b1, b2, b3⟩ := unhide HBCE _ (unhide HF7)
        have hile := (unhide HWf).len; simp only at hile; rw [unhide Hil] at hile
        go_wp2_with fail
        go_loopw [5, 39] (fun v c wq => ∃ k : Nat, c = .int .i64 k ∧ (k : Int) ≤ il ∧ Iv w.heap.size W1 v (Q1 ++ insT (ins.take k) next) wq) (fun _ c _ => il - (intOf c).toNat)
        case atStart => exact ⟨0, rfl, by omega, _, _, _, rfl, by simpa [insT] using unhide HBd7, unhide HF7⟩
        case round =>
          obtain ⟨k, rfl, hk, a8, n8, c8, rfl, hbd8, hfr8⟩ := hrel
          have HBd8 := hide hbd8; have HF8 := hide hfr8
          clear b0 b1 b2 b3 hbd8
          obtain ⟨b0, b1, b2, b3⟩ := unhide HBCE _ hfr8
          by_cases hlt2 : (k : Int) < il
          · obtain ⟨y, hy⟩ : ∃ y, ins[k]? = some y := ⟨_, List.getElem?_eq_getElem (by have := unhide Hil; omega)⟩
            have hmem : y ∈ ins := List.mem_of_getElem? hy
            have hF0 := Fr.on (unhide HFW1) hfr8
            have hlow := unhide HLo _ hF0
            obtain ⟨bi, oi, rfl, hgi, hbi, hit⟩ := unhide HII (by have := unhide Hil; omega)
            obtain ⟨cs, hcl, ⟨vs, rfl, hs⟩, hce⟩ := hit k y hy
            have cc := fun i u hu => (hlow.cell (p := ⟨bi, oi + k * 5 + i, none⟩) hbi).trans (hce i u hu)
            have e0 := cc 0 _ rfl; have e1 := cc 1 _ rfl; have e2 := cc 2 _ rfl; have e3 := cc 3 _ rfl; have e4 := cc 4 _ rfl
            simp only [Nat.add_zero] at e0
            have hbi2 : bi < wr.heap.size := World.block_lt_of_cell? wr _ e0
            have hwy := (unhide HWf).ins y hmem
            have HSs := hide hs
            obtain ⟨sa, sc, rfl, _⟩ := hs
            obtain ⟨R1, hR1⟩ : ∃ R, Q1 ++ insT (ins.take k) next = R := ⟨_, rfl⟩
            have hR2 : Q1 ++ insT (ins.take (k + 1)) next = R1 ++ line y next := by rw [← hR1, unhide HIt k y hy]; simp
            have hRl : R1.length + (line y next).length ≤ 1099511627776 := by
              have a1 := unhide HIl2 (k + 1)
              have a2 : (Q1 ++ insT (ins.take (k + 1)) next).length = R1.length + (line y next).length := by rw [hR2, List.length_append]
              rw [List.length_append] at a2; have := unhide HPl2; omega
            rw [hR1] at HBd8
            have HR2 := hide hR2; have HRl := hide hRl; have HWy := hide hwy; have HLow := hide hlow
            clear hy hit hcl hce cc hmem hR1 hR2 hRl hlow hwy hk
            obtain ⟨op, dst, src, nn, of⟩ := y
            simp only at *
            generalize hsl : src.length = sl at *
            have HSl := hide hsl; clear hsl
            go_upto_region 12 with fail
            have hal := one_alloc wr (.cells #[.int .u8 (op : Int), .int .i64 dst, .slice sa sl sc, .int .i64 nn, .int .u32 of] 82)
            have rn := heap_alloc_new wr (.cells #[.int .u8 (op : Int), .int .i64 dst, .slice sa sl sc, .int .i64 nn, .int .u32 of] 82)
            generalize wr.alloc (.cells #[.int .u8 (op : Int), .int .i64 dst, .slice sa sl sc, .int .i64 nn, .int .u32 of] 82) = W3 at *
            have hF3 : Fr w.heap.size W1 W3 := Fr.on hfr8 (Fr.of (unhide HSz _ hF0) hal)
            have hF30 := Fr.on (unhide HFW1) hF3
            have hlow3 := unhide HLo _ hF30
            have HC3 := hide (line_any ⟨op, dst, src, nn, of⟩ (unhide HWy) next (unhide HWf).next (unhide HWf).nlen g (.slice sa sl sc) (.slice an nl cn) (.slice a8 n8 c8) R1 w.heap.size W3 (unhide HTB _ hF30) ((unhide HSs).fr hlow3 (unhide HG)) ((unhide HN).fr hlow3 (unhide HG)) (unhide HG) (unhide HSz _ hF30) ((unhide HBd8).below hal) (unhide HRl))
            clear b0 b1 b2 b3 e0 e1 e2 e3 e4
            obtain ⟨b0, b1, b2, b3⟩ := unhide HBCE _ hF3
            have e0 : W3.cell? ⟨wr.heap.size, 0, none⟩ = some (.int .u8 (op : Int)) := by rw [cell_of_row W3 _ 0 _ _ _ rn]; rfl
            have e1 : W3.cell? ⟨wr.heap.size, 1, none⟩ = some (.int .i64 dst) := by rw [cell_of_row W3 _ 1 _ _ _ rn]; rfl
            have e2 : W3.cell? ⟨wr.heap.size, 2, none⟩ = some (.slice sa sl sc) := by rw [cell_of_row W3 _ 2 _ _ _ rn]; rfl
            have e3 : W3.cell? ⟨wr.heap.size, 3, none⟩ = some (.int .i64 nn) := by rw [cell_of_row W3 _ 3 _ _ _ rn]; rfl
            have e4 : W3.cell? ⟨wr.heap.size, 4, none⟩ = some (.int .u32 of) := by rw [cell_of_row W3 _ 4 _ _ _ rn]; rfl
            have HF3' := hide hF3
            clear hal rn hF3 hF30 hlow3 hfr8 hF0 hbi2
            go_wp2_with fail
            refine (unhide HC3).mono ?_
            rintro e w9 ⟨v9, rfl, a9, n9, c9, rfl, hbd9, hfr9⟩
            have HBd9 := hide hbd9; have HF9 := hide (Fr.on (unhide HF3') hfr9)
            clear hbd9 hfr9 HC3 b0 b1 b2 b3 e0 e1 e2 e3 e4
            go_wp2
            go_roundw
            case rel => exact ⟨k + 1, by go_num, by omega, _, _, _, rfl, by rw [unhide HR2]; exact unhide HBd9, unhide HF9⟩
            case measure => simp [intOf]; omega
          · obtain rfl : k = il := by omega
            have HBd9 := hide (show Bd wr w.heap.size (.slice a8 n8 c8) (F1 ++ txtB 0 (bl.take (j + 1))) by
              have := unhide HBd8
              rw [← unhide Hil, List.take_length] at this
              rw [unhide HP3]; exact this)
            have HF9 := hide (Fr.on (unhide HFW1) hfr8)
            clear hk hlt2 HBd8 hfr8 b0 b1 b2 b3
            go_wp2
            go_roundw
            case rel => exact ⟨j + 1, by go_num, by omega, _, _, _, rfl, unhide HBd9, unhide HF9⟩
            case measure => simp [intOf]; omega
      · obtain rfl : j = n := by omega
        have hbdT : Bd wr w.heap.size (.slice a3 n3 c3) T1 := by
          have := unhide HBd3
          rw [← unhide HNb, List.take_length] at this
          rw [← unhide HTt]; exact this
        have hlow := unhide HLo _ hfr3
        obtain ⟨_, _, esh, _⟩ := hbdT.shape
        simp only [Value.slice.injEq] at esh
        obtain ⟨eq1, rfl, eq2⟩ := esh
        clear eq1 eq2
        have hback := back_bd hbdT
        have HLw := hide hlow
        clear hj hlt HBd3 hfr3 hlow hbdT k0 k1 k2 k3 z0
        generalize hTl : T1.length = tl at *
        by_cases h6 : tl ≤ 65536
        · rw [if_pos h6] at HS HE
          have t6 : decide ((tl : Int) > 65536) = false := by simp; omega
          have t7 : decide ((65536 : Int) < tl) = false := by simp; omega
          have HSS := hide (show str SS = str T1 by rw [unhide HS])
          have HEE := hide (show errV EE = .nilIface by rw [unhide HE]; exact errV_0)
          clear h6 HS HE hTl
          go_wp2
          go_ret2
          exact ⟨ret_se (unhide HSS).symm (unhide HEE).symm, unhide HLw⟩
        · rw [if_neg h6] at HS HE
          have t6 : (65536 : Int) < tl := by omega
          have HSS := hide (show str SS = ⟨#[]⟩ by rw [unhide HS]; rfl)
          have HEE := hide (show errV EE = .iface 90 (.int .i64 2) by rw [unhide HE]; exact errV_2)
          clear h6 HS HE hTl
          go_wp2
          go_ret2
          exact ⟨ret_se (unhide HSS).symm (unhide HEE).symm, unhide HLw⟩
end Vc
end Go.Proofs.YtheopjcmhclgdaaGreatDoor

/- vcode.Pure; the statements' sure. -/
namespace Go.Proofs.YtheopjcmhclgdaaGreatDoor
open Go.RowKit
namespace Vc
set_option linter.unusedVariables false
set_option linter.unusedSimpArgs false

/-- is it one of layer 2? -/
def rck (n : Nat) : Bool := (sgn n).isSome && decide (66 < n)
def dvd (n : Nat) : Bool := (decide (109 ≤ n) && decide (n ≤ 112)) || (decide (127 ≤ n) && decide (n ≤ 130))
def pur (n : Nat) : Bool := decide (n = 66 ∨ n = 192 ∨ n = 27 ∨ n = 63 ∨ n = 35) || (rck n && !dvd n)

set_option maxRecDepth 100000 in
set_option maxHeartbeats 1600000 in
theorem rck_any (n : Nat) (hn : n < 256) (w : World) (hT : Fms w) :
    Calls Tryz.prog 30 #[.int .u8 n] w fun e w' => e = .returned (.bool (rck n)) ∧ Below w.heap.size w w' := by
  have hr : rck n = ((sgn n).isSome && decide (66 < n)) := rfl
  by_cases h36 : n ≤ 36
  · have HR := hide (show rck n = false by rw [hr]; simp; omega)
    have hc : Calls Tryz.prog 53 #[.int .u8 n] w fun e w' => e = .returned (.tuple #[.agg #[.slice none 0 0, .int .u8 0], errV 1]) ∧ Below w.heap.size w w' := by
      cases hf : fam n with
      | none => exact sign_none n hn _ hT hf
      | some x => exact sign_low n hn _ hT x hf (by omega)
    rw [errV_1] at hc
    have HC := hide hc
    clear hc hr hT h36
    go_enter Tryz.func30, Tryz.ntmps30
    go_wp2_with fail
    refine (unhide HC).mono ?_
    rintro e w1 ⟨rfl, hb⟩
    have HB := hide hb; clear hb
    go_wp2
    go_ret
    exact ⟨ret_bool (unhide HR).symm, (unhide HB).alloc (unhide HB).size _⟩
  · cases hf : fam n with
    | none =>
      have HR := hide (show rck n = false by rw [hr]; simp [sgn, h36, hf])
      have hc := sign_none n hn w hT hf
      rw [errV_1] at hc
      have HC := hide hc
      clear hc hr hT h36 hf
      go_enter Tryz.func30, Tryz.ntmps30
      go_wp2_with fail
      refine (unhide HC).mono ?_
      rintro e w1 ⟨rfl, hb⟩
      have HB := hide hb; clear hb
      go_wp2
      go_ret
      exact ⟨ret_bool (unhide HR).symm, (unhide HB).alloc (unhide HB).size _⟩
    | some x =>
      have HR := hide (show rck n = decide ((66 : Int) < n) by rw [hr]; simp [sgn, h36, hf]; omega)
      have hc := sign_yes n hn w hT x hf (by omega)
      rw [errV_0] at hc
      have HC := hide hc
      clear hc hr hT h36 hf
      go_enter Tryz.func30, Tryz.ntmps30
      go_wp2_with fail
      refine (unhide HC).mono ?_
      rintro e w1 ⟨v, rfl, ho, hb⟩
      obtain ⟨va, vc, rfl⟩ := own_slice ho
      have HB := hide hb; clear hb ho
      generalize (pk x.x x.y 2).length = pl at *
      go_wp2
      go_ret
      exact ⟨ret_bool (unhide HR).symm, (unhide HB).alloc (unhide HB).size _⟩
set_option maxRecDepth 100000 in
set_option maxHeartbeats 1600000 in
theorem dvd_any (n : Nat) (hn : n < 256) (w : World) :
    Calls Tryz.prog 31 #[.int .u8 n] w fun e w' => e = .returned (.bool (dvd n)) ∧ w' = w := by
  by_cases a1 : (109 : Int) ≤ n
  · by_cases a2 : (n : Int) ≤ 112
    · have HR := hide (show dvd n = true by simp [dvd]; omega)
      go_enter Tryz.func31, Tryz.ntmps31
      go_wp2
      go_ret
      exact ⟨ret_bool (unhide HR).symm, rfl⟩
    · by_cases a3 : (127 : Int) ≤ n
      · by_cases a4 : (n : Int) ≤ 130
        · have HR := hide (show dvd n = true by simp [dvd]; omega)
          go_enter Tryz.func31, Tryz.ntmps31
          go_wp2
          go_ret
          exact ⟨ret_bool (unhide HR).symm, rfl⟩
        · have HR := hide (show dvd n = false by simp [dvd]; omega)
          have t1 : decide ((n : Int) ≤ 112) = false := by simpa using a2
          have t2 : decide ((n : Int) ≤ 130) = false := by simpa using a4
          clear a2 a4
          go_enter Tryz.func31, Tryz.ntmps31
          go_wp2
          go_ret
          exact ⟨ret_bool (unhide HR).symm, rfl⟩
      · have HR := hide (show dvd n = false by simp [dvd]; omega)
        have t1 : decide ((n : Int) ≤ 112) = false := by simpa using a2
        have t2 : decide ((127 : Int) ≤ n) = false := by simpa using a3
        clear a2 a3
        go_enter Tryz.func31, Tryz.ntmps31
        go_wp2
        go_ret
        exact ⟨ret_bool (unhide HR).symm, rfl⟩
  · have HR := hide (show dvd n = false by simp [dvd]; omega)
    have t1 : decide ((109 : Int) ≤ n) = false := by simpa using a1
    have t2 : decide ((127 : Int) ≤ n) = false := by simp; omega
    clear a1
    go_enter Tryz.func31, Tryz.ntmps31
    go_wp2
    go_ret
    exact ⟨ret_bool (unhide HR).symm, rfl⟩
set_option maxRecDepth 100000 in
set_option maxHeartbeats 1600000 in
theorem pur_any (n : Nat) (hn : n < 256) (w : World) (hT : Fms w) :
    Calls Tryz.prog 15 #[.int .u8 n] w fun e w' => e = .returned (.bool (pur n)) ∧ Below w.heap.size w w' := by
  by_cases hs : n = 66 ∨ n = 192 ∨ n = 27 ∨ n = 63 ∨ n = 35
  · have HR := hide (show pur n = true by simp [pur, hs])
    rcases hs with rfl | rfl | rfl | rfl | rfl
    all_goals
      go_enter Tryz.func15, Tryz.ntmps15
      go_wp2
      go_ret
      exact ⟨ret_bool (unhide HR).symm, Below.refl _ _⟩
  · have hpp : pur n = (rck n && !dvd n) := by simp only [pur, hs, decide_false, Bool.false_or]
    have t0 : ((n : Int) == 66) = false := by simp; omega
    have t1 : ((n : Int) == 192) = false := by simp; omega
    have t2 : ((n : Int) == 27) = false := by simp; omega
    have t3 : ((n : Int) == 63) = false := by simp; omega
    have t4 : ((n : Int) == 35) = false := by simp; omega
    have hc := rck_any n hn w hT
    have hd := fun W => dvd_any n hn W
    have HD := hide hd
    cases hr : rck n with
    | false =>
      rw [hr] at hc
      have HR := hide (show pur n = false by rw [hpp, hr]; rfl)
      have HC := hide hc
      clear hc hr hpp hs hd hT
      go_enter Tryz.func15, Tryz.ntmps15
      go_wp2_with fail
      refine (unhide HC).mono ?_
      rintro e w1 ⟨rfl, hb⟩
      have HB := hide hb; clear hb
      go_wp2
      go_ret
      exact ⟨ret_bool (unhide HR).symm, unhide HB⟩
    | true =>
      rw [hr] at hc
      have HR := hide (show pur n = !dvd n by rw [hpp, hr]; rfl)
      have HC := hide hc
      clear hc hr hpp hs hd hT
      go_enter Tryz.func15, Tryz.ntmps15
      go_wp2_with fail
      refine (unhide HC).mono ?_
      rintro e w1 ⟨rfl, hb⟩
      have HB := hide hb; clear hb
      go_wp2_with fail
      refine (unhide HD _).mono ?_
      rintro e w2 ⟨rfl, rfl⟩
      go_wp2
      go_ret
      exact ⟨ret_bool (unhide HR).symm, unhide HB⟩

/-- sure's code -/
def co0 : Co := ⟨1, 2, true, [⟨[⟨106, 1, [0, 0], 0, 0⟩, ⟨15, -1, [1], 0, 0⟩], [], 0⟩]⟩
def tx0 : List UInt8 := [114, 101, 103, 115, 32, 50, 32, 112, 97, 114, 97, 109, 115, 32, 49, 32, 114, 101, 115, 117, 108, 116, 10, 98, 108, 111, 99, 107, 32, 48, 32, 100, 101, 112, 116, 104, 32, 48, 10, 32, 32, 114, 49, 32, 61, 32, 105, 51, 50, 46, 97, 100, 100, 32, 114, 48, 32, 114, 48, 10, 32, 32, 114, 101, 116, 117, 114, 110, 32, 114, 49, 10]
theorem dec0 : dec 0 = [48] := by show Lib.itoa ((0 : Nat) : Int) = _; rw [Lib.itoa_nonneg, Lib.decDigits_one (by decide)]; rfl
theorem dec1 : dec 1 = [49] := by show Lib.itoa ((1 : Nat) : Int) = _; rw [Lib.itoa_nonneg, Lib.decDigits_one (by decide)]; rfl
theorem dec2 : dec 2 = [50] := by show Lib.itoa ((2 : Nat) : Int) = _; rw [Lib.itoa_nonneg, Lib.decDigits_one (by decide)]; rfl
theorem chk0 : chk co0 = true := by decide +kernel
theorem txt0 : txt co0 = tx0 := by
  have h1 : nam 106 = [105, 51, 50, 46, 97, 100, 100] := by decide +kernel
  have h2 : nam 15 = [114, 101, 116, 117, 114, 110] := by decide +kernel
  have h3 : numd 106 = false := by decide
  have h4 : numd 15 = false := by decide
  have h5 : acc 106 = false := by decide +kernel
  have h6 : acc 15 = false := by decide +kernel
  have h7 : ends 106 = false := by decide
  have h8 : ends 15 = true := by decide
  simp [txt, first, co0, txtB, hdB, insT, line, pGiv, pSrc, pNum, pOf, pNext, pTo, dec0, dec1, dec2, h1, h2, h3, h4, h5, h6, h7, h8, tx0]
theorem pur0 : pur 106 = true := by decide +kernel
theorem wf0 : WfC co0 := by
  refine ⟨⟨by decide, by decide⟩, ⟨by decide, by decide⟩, fun b hb => ?_, by decide⟩
  simp only [co0, List.mem_singleton] at hb
  subst hb
  refine ⟨fun y hy => ?_, by simp, ⟨by decide, by decide⟩, by decide, by decide⟩
  simp only [List.mem_cons, List.not_mem_nil, or_false] at hy
  rcases hy with rfl | rfl
  · exact ⟨by decide, ⟨by decide, by decide⟩, by simp [i64], ⟨by decide, by decide⟩, by decide, by decide, by decide⟩
  · exact ⟨by decide, ⟨by decide, by decide⟩, by simp [i64], ⟨by decide, by decide⟩, by decide, by decide, by decide⟩

/-- the world in which sure's code lies -/
def wo0 (w : World) : World := ((((w.alloc (.cells #[.int .i64 0, .int .i64 0] 3)).alloc (.cells #[.int .i64 1] 3)).alloc (.cells #[.int .u8 106, .int .i64 1, .slice (some ⟨w.heap.size, 0, none⟩) 2 2, .int .i64 0, .int .u32 0, .int .u8 15, .int .i64 (-1), .slice (some ⟨w.heap.size + 1, 0, none⟩) 1 1, .int .i64 0, .int .u32 0] 82)).alloc (.cells #[.slice (some ⟨w.heap.size + 2, 0, none⟩) 2 2, .slice none 0 0, .int .i64 0] 85))
theorem wo0_rows (w : World) : Below w.heap.size w (wo0 w) ∧ (wo0 w).heap.size = w.heap.size + 4 ∧ (wo0 w).heap[w.heap.size]? = some (.cells #[.int .i64 0, .int .i64 0] 3 (0, 0)) ∧ (wo0 w).heap[w.heap.size + 1]? = some (.cells #[.int .i64 1] 3 (0, 0)) ∧
    (wo0 w).heap[w.heap.size + 2]? = some (.cells #[.int .u8 106, .int .i64 1, .slice (some ⟨w.heap.size, 0, none⟩) 2 2, .int .i64 0, .int .u32 0, .int .u8 15, .int .i64 (-1), .slice (some ⟨w.heap.size + 1, 0, none⟩) 1 1, .int .i64 0, .int .u32 0] 82 (0, 0)) ∧
    (wo0 w).heap[w.heap.size + 3]? = some (.cells #[.slice (some ⟨w.heap.size + 2, 0, none⟩) 2 2, .slice none 0 0, .int .i64 0] 85 (0, 0)) := by
  unfold wo0
  generalize hO1 : Obj.cells #[Value.int .i64 0, .int .i64 0] 3 = O1
  generalize hO2 : Obj.cells #[Value.int .i64 1] 3 = O2
  generalize hO3 : Obj.cells #[Value.int .u8 106, .int .i64 1, .slice (some ⟨w.heap.size, 0, none⟩) 2 2, .int .i64 0, .int .u32 0, .int .u8 15, .int .i64 (-1), .slice (some ⟨w.heap.size + 1, 0, none⟩) 1 1, .int .i64 0, .int .u32 0] 82 = O3
  generalize hO4 : Obj.cells #[Value.slice (some ⟨w.heap.size + 2, 0, none⟩) 2 2, .slice none 0 0, .int .i64 0] 85 = O4
  have s1 : (w.alloc O1).heap.size = w.heap.size + 1 := by simp
  have s2 : ((w.alloc O1).alloc O2).heap.size = w.heap.size + 2 := by simp
  have s3 : (((w.alloc O1).alloc O2).alloc O3).heap.size = w.heap.size + 3 := by simp
  have s4 : ((((w.alloc O1).alloc O2).alloc O3).alloc O4).heap.size = w.heap.size + 4 := by simp
  have a0 := heap_alloc_new w O1
  have a1 := heap_alloc_new (w.alloc O1) O2
  have a2 := heap_alloc_new ((w.alloc O1).alloc O2) O3
  have a3 := heap_alloc_new (((w.alloc O1).alloc O2).alloc O3) O4
  rw [s1] at a1; rw [s2] at a2; rw [s3] at a3
  refine ⟨?_, s4, ?_, ?_, ?_, a3⟩
  · exact ((((Below.refl _ _).alloc (Nat.le_refl _) _).alloc (by omega) _).alloc (by omega) _).alloc (by omega) _
  · rw [Below.heap_alloc _ _ _ (by omega), Below.heap_alloc _ _ _ (by omega), Below.heap_alloc _ _ _ (by omega)]; exact a0
  · rw [Below.heap_alloc _ _ _ (by omega), Below.heap_alloc _ _ _ (by omega)]; exact a1
  · rw [Below.heap_alloc _ _ _ (by omega)]; exact a2
theorem bls0 (w : World) : Bls (wo0 w) (fun k => k < (wo0 w).heap.size) co0.bl (.slice (some ⟨w.heap.size + 3, 0, none⟩) 1 1) := by
  obtain ⟨_, hz, r0, r1, r2, r3⟩ := wo0_rows w
  generalize wo0 w = W at *
  generalize w.heap.size = N at *
  have num0 : NumsL W (fun k => k < W.heap.size) [0, 0] (.slice (some ⟨N, 0, none⟩) 2 2) := ⟨_, _, rfl, Nat.le_refl _, by simp, fun _ => ⟨N, 0, rfl, by show N < W.heap.size; omega, fun j hj => by
    rw [cell_of_row W N _ _ _ _ r0]
    match j, hj with
    | 0, _ => rfl
    | 1, _ => rfl⟩⟩
  have num1 : NumsL W (fun k => k < W.heap.size) [1] (.slice (some ⟨N + 1, 0, none⟩) 1 1) := ⟨_, _, rfl, Nat.le_refl _, by simp, fun _ => ⟨N + 1, 0, rfl, by show N + 1 < W.heap.size; omega, fun j hj => by
    rw [cell_of_row W (N + 1) _ _ _ _ r1]
    match j, hj with
    | 0, _ => rfl⟩⟩
  refine ⟨_, _, rfl, Nat.le_refl _, by simp, fun _ => ⟨N + 3, 0, rfl, by show N + 3 < W.heap.size; omega, by omega, fun i x hi => ?_⟩⟩
  match i, hi with
  | 0, hi =>
    obtain rfl := Option.some.inj hi
    refine ⟨[.slice (some ⟨N + 2, 0, none⟩) 2 2, .slice none 0 0, .int .i64 0], rfl, ⟨_, _, rfl, ?_, ⟨_, _, rfl, Nat.le_refl _, by simp, fun h => absurd h (by decide)⟩⟩, fun j u hu => by rw [cell_of_row W (N + 3) _ _ _ _ r3]; simpa using hu⟩
    refine ⟨_, _, rfl, Nat.le_refl _, by simp, fun _ => ⟨N + 2, 0, rfl, by show N + 2 < W.heap.size; omega, by omega, fun k y hk => ?_⟩⟩
    match k, hk with
    | 0, hk =>
      obtain rfl := Option.some.inj hk
      refine ⟨[.int .u8 106, .int .i64 1, .slice (some ⟨N, 0, none⟩) 2 2, .int .i64 0, .int .u32 0], rfl, ⟨_, rfl, num0⟩, fun j u hu => ?_⟩
      rw [cell_of_row W (N + 2) _ _ _ _ r2]
      match j, hu with
      | 0, hu => simpa using hu
      | 1, hu => simpa using hu
      | 2, hu => simpa using hu
      | 3, hu => simpa using hu
      | 4, hu => simpa using hu
      | j + 5, hu => simp at hu
    | 1, hk =>
      obtain rfl := Option.some.inj hk
      refine ⟨[.int .u8 15, .int .i64 (-1), .slice (some ⟨N + 1, 0, none⟩) 1 1, .int .i64 0, .int .u32 0], rfl, ⟨_, rfl, num1⟩, fun j u hu => ?_⟩
      rw [cell_of_row W (N + 2) _ _ _ _ r2]
      match j, hu with
      | 0, hu => simpa using hu
      | 1, hu => simpa using hu
      | 2, hu => simpa using hu
      | 3, hu => simpa using hu
      | 4, hu => simpa using hu
      | j + 5, hu => simp at hu
    | k + 2, hk => simp [co0] at hk
  | i + 1, hi => simp [co0] at hi
end Vc
end Go.Proofs.YtheopjcmhclgdaaGreatDoor

/- The statements' sure. -/
namespace Go.Proofs.YtheopjcmhclgdaaGreatDoor
open Go.RowKit
namespace Vc
set_option linter.unusedVariables false

theorem txS0 : txS co0 = tx0 := by unfold txS; rw [chk0, txt0]; rfl
theorem txE0 : txE co0 = 0 := by unfold txE; rw [chk0, txt0]; rfl

set_option maxRecDepth 100000 in
set_option maxHeartbeats 3200000 in
theorem sure_any (w : World) (hT : Fms w) (hN : Nms w) (hP : P10 w) :
    Calls Tryz.prog 6 #[] w fun e w' => e = .returned (.bool true) ∧ Below w.heap.size w w' := by
  obtain ⟨hb4, hz4, _⟩ := wo0_rows w
  have hb5 := Below.on hb4 (one_alloc (wo0 w) (.cells #[.int .i64 1, .int .i64 2, .bool true, .slice (some ⟨w.heap.size + 3, 0, none⟩) 1 1] 53))
  have rB := heap_alloc_new (wo0 w) (.cells #[.int .i64 1, .int .i64 2, .bool true, .slice (some ⟨w.heap.size + 3, 0, none⟩) 1 1] 53)
  have hbl := (bls0 w).below (one_alloc (wo0 w) (.cells #[.int .i64 1, .int .i64 2, .bool true, .slice (some ⟨w.heap.size + 3, 0, none⟩) 1 1] 53))
  have ht := text_any co0 wf0 _ _ _ (TC.below hT hb5) (hN.below hb5) (hP.below hb5) hbl (fun k hk => Nat.lt_of_lt_of_le hk (one_alloc (wo0 w) _).size) (by decide) (by rw [txt0]; decide)
  rw [txS0, txE0, errV_0] at ht
  have hzz := fun W h => size_any 1 2 true co0.bl (fun k => k < (wo0 w).heap.size) (.slice (some ⟨w.heap.size + 3, 0, none⟩) 1 1) W h (by decide) (by decide)
  rw [show siz co0.bl = 2 from rfl] at hzz
  have hpu := fun W h => pur_any 106 (by decide) W h
  rw [pur0] at hpu
  have hen := fun W => vends_any 193 (by decide) W
  rw [show ends 193 = true from rfl] at hen
  have hS : ((str tx0).toList == [114, 101, 103, 115, 32, 50, 32, 112, 97, 114, 97, 109, 115, 32, 49, 32, 114, 101, 115, 117, 108, 116, 10, 98, 108, 111, 99, 107, 32, 48, 32, 100, 101, 112, 116, 104, 32, 48, 10, 32, 32, 114, 49, 32, 61, 32, 105, 51, 50, 46, 97, 100, 100, 32, 114, 48, 32, 114, 48, 10, 32, 32, 114, 101, 116, 117, 114, 110, 32, 114, 49, 10]) = true := by rw [str_toList]; decide
  generalize str tx0 = S at *
  have HTx := hide ht; have HZz := hide hzz; have HPu := hide hpu; have HEn := hide hen; have HB5 := hide hb5; have HBl := hide hbl; have HT := hide hT; have HRB := hide rB
  clear ht hzz hpu hen hb4 hz4 hb5 hbl hT hN hP rB
  go_enter Tryz.func6, Tryz.ntmps6
  go_wp2_with fail
  refine (unhide HTx).mono ?_
  rintro e w1 ⟨rfl, hb1⟩
  have hbb := Below.on (unhide HB5) hb1
  have c : w1.heap[w.heap.size + 4]? = some (.cells #[.int .i64 1, .int .i64 2, .bool true, .slice (some ⟨w.heap.size + 3, 0, none⟩) 1 1] 53 (0, 0)) := by
    have e4 : (wo0 w).heap.size = w.heap.size + 4 := (wo0_rows w).2.1
    rw [← e4]
    exact (hb1.block _ (by simp)).trans (unhide HRB)
  have k0 : w1.cell? ⟨w.heap.size + 4, 0, none⟩ = some (.int .i64 1) := by rw [cell_of_row w1 _ 0 _ _ _ c]; rfl
  have k1 : w1.cell? ⟨w.heap.size + 4, 1, none⟩ = some (.int .i64 2) := by rw [cell_of_row w1 _ 1 _ _ _ c]; rfl
  have k2 : w1.cell? ⟨w.heap.size + 4, 2, none⟩ = some (.bool true) := by rw [cell_of_row w1 _ 2 _ _ _ c]; rfl
  have k3 : w1.cell? ⟨w.heap.size + 4, 3, none⟩ = some (.slice (some ⟨w.heap.size + 3, 0, none⟩) 1 1) := by rw [cell_of_row w1 _ 3 _ _ _ c]; rfl
  have HBb := hide hbb
  have HZ2 := hide (unhide HZz _ ((unhide HBl).below hb1))
  clear hb1 hbb c HTx HRB HB5 HBl HZz
  go_wp2_with fail
  refine (unhide HZ2).mono ?_
  rintro e w2 ⟨rfl, hb2⟩
  have HB2 := hide (Below.on (unhide HBb) hb2)
  clear hb2 HZ2 k0 k1 k2 k3
  go_wp2_with fail
  refine (unhide HPu _ (TC.below (unhide HT) (unhide HB2))).mono ?_
  rintro e w3 ⟨rfl, hb3⟩
  have HB3 := hide (Below.on (unhide HB2) hb3)
  clear hb3
  go_wp2_with fail
  refine (unhide HEn _).mono ?_
  rintro e w4 ⟨rfl, rfl⟩
  go_wp2
  go_ret
  exact ⟨rfl, unhide HB3⟩
end Vc
end Go.Proofs.YtheopjcmhclgdaaGreatDoor

/- The document's Name, Ends, Memory, Pure of an instruction. -/
namespace Go.Proofs.YtheopjcmhclgdaaGreatDoor
open Go.RowKit
namespace Vc
set_option linter.unusedVariables false
set_option linter.unusedSimpArgs false

/-- which numbers the document's Name hands on -/
def rsp (n : Nat) : Bool := decide (n = 15 ∨ n = 0 ∨ n = 16 ∨ n = 17 ∨ n = 27 ∨ n = 35 ∨ n = 36)
def rnm (n : Nat) : List UInt8 :=
  if n = 66 then [99, 111, 110, 115, 116]
  else if n = 192 then [109, 111, 118, 101]
  else if n = 193 then [106, 117, 109, 112]
  else if n = 194 then [98, 114, 97, 110, 99, 104]
  else if n = 195 then [116, 97, 98, 108, 101]
  else if rsp n then nm n
  else if decide (40 ≤ n) && !decide (n = 65) then nm n
  else []

set_option maxRecDepth 100000 in
set_option maxHeartbeats 3200000 in
theorem rnm_any (n : Nat) (hn : n < 256) (w : World) :
    Calls Tryz.prog 45 #[.int .u8 n] w fun e w' => e = .returned (.string (str (rnm n))) ∧ Below w.heap.size w w' := by
  by_cases h0 : n = 66 ∨ n = 192 ∨ n = 193 ∨ n = 194 ∨ n = 195
  · rcases h0 with rfl | rfl | rfl | rfl | rfl
    all_goals
      go_enter Tryz.func45, Tryz.ntmps45
      go_wp2
      go_ret
      exact ⟨rfl, Below.refl _ _⟩
  have hc := namer_any n hn w
  by_cases h1 : n = 15 ∨ n = 0 ∨ n = 16 ∨ n = 17 ∨ n = 27 ∨ n = 35 ∨ n = 36
  · rcases h1 with rfl | rfl | rfl | rfl | rfl | rfl | rfl
    all_goals
      have HC := hide hc
      clear hc h0
      go_enter Tryz.func45, Tryz.ntmps45
      go_wp2_with fail
      refine (unhide HC).mono ?_
      rintro e w1 ⟨rfl, hb⟩
      have HB := hide hb; clear hb
      go_wp2
      go_ret
      exact ⟨rfl, unhide HB⟩
  have t0 : ((n : Int) == 66) = false := by simp; omega
  have t1 : ((n : Int) == 192) = false := by simp; omega
  have t2 : ((n : Int) == 193) = false := by simp; omega
  have t3 : ((n : Int) == 194) = false := by simp; omega
  have t4 : ((n : Int) == 195) = false := by simp; omega
  have u0 : ((n : Int) == 15) = false := by simp; omega
  have u1 : ((n : Int) == 0) = false := by simp; omega
  have u2 : ((n : Int) == 16) = false := by simp; omega
  have u3 : ((n : Int) == 17) = false := by simp; omega
  have u4 : ((n : Int) == 27) = false := by simp; omega
  have u5 : ((n : Int) == 35) = false := by simp; omega
  have u6 : ((n : Int) == 36) = false := by simp; omega
  have hr : rnm n = if decide (40 ≤ n) && !decide (n = 65) then nm n else [] := by
    unfold rnm rsp
    rw [if_neg (by omega), if_neg (by omega), if_neg (by omega), if_neg (by omega), if_neg (by omega), if_neg (by simpa using h1)]
  by_cases h2 : (40 : Int) ≤ n
  · by_cases h3 : (n : Int) = 65
    · have HR := hide (show rnm n = [] by rw [hr, if_neg (by simp; omega)])
      have t5 : ((n : Int) != 65) = false := by simpa using h3
      have hne : n = 65 := by omega
      subst hne
      clear hr h0 h1 hc t0 t1 t2 t3 t4 u0 u1 u2 u3 u4 u5 u6 h2 h3 t5
      go_enter Tryz.func45, Tryz.ntmps45
      go_wp2
      go_ret
      exact ⟨by rw [unhide HR]; rfl, Below.refl _ _⟩
    · have HR := hide (show rnm n = nm n by rw [hr, if_pos (by simp; omega)])
      have t5 : ((n : Int) != 65) = true := by simpa using h3
      have HC := hide hc
      clear hr h0 h1 hc h3
      generalize nm n = l at *
      go_enter Tryz.func45, Tryz.ntmps45
      go_wp2_with fail
      refine (unhide HC).mono ?_
      rintro e w1 ⟨rfl, hb⟩
      have HB := hide hb; clear hb
      go_wp2
      go_ret
      exact ⟨by rw [unhide HR]; rfl, unhide HB⟩
  · have HR := hide (show rnm n = [] by rw [hr, if_neg (by simp; omega)])
    have t6 : decide ((n : Int) ≥ 40) = false := by simp; omega
    have t7 : decide ((40 : Int) ≤ n) = false := by simp; omega
    clear hr h0 h1 hc h2
    go_enter Tryz.func45, Tryz.ntmps45
    go_wp2
    go_ret
    exact ⟨by rw [unhide HR]; rfl, Below.refl _ _⟩
set_option maxRecDepth 100000 in
theorem rends_any (n : Nat) (hn : n < 256) (w : World) :
    Calls Tryz.prog 44 #[.int .u8 n] w fun e w' => e = .returned (.bool (ends n)) ∧ w' = w := by
  by_cases h0 : n = 193 ∨ n = 194 ∨ n = 195 ∨ n = 15 ∨ n = 0
  · rcases h0 with rfl | rfl | rfl | rfl | rfl
    all_goals
      go_enter Tryz.func44, Tryz.ntmps44
      go_wp2
      go_ret
      exact ⟨rfl, rfl⟩
  have HR := hide (show ends n = false by unfold ends; simp; omega)
  have t2 : ((n : Int) == 193) = false := by simp; omega
  have t3 : ((n : Int) == 194) = false := by simp; omega
  have t4 : ((n : Int) == 195) = false := by simp; omega
  have u0 : ((n : Int) == 15) = false := by simp; omega
  have u1 : ((n : Int) == 0) = false := by simp; omega
  clear h0
  go_enter Tryz.func44, Tryz.ntmps44
  go_wp2
  go_ret
  exact ⟨ret_bool (unhide HR).symm, rfl⟩
set_option maxRecDepth 100000 in
theorem rmem_any (n : Nat) (hn : n < 256) (w : World) :
    Calls Tryz.prog 46 #[.int .u8 n] w fun e w' => e = .returned (.bool (acc n)) ∧ Below w.heap.size w w' := by
  have hc := formr_all n hn w
  unfold acc
  cases hf : fam n with
  | none =>
    rw [hf] at hc
    simp only [Option.map_none, Option.getD_none, Option.isSome_none] at hc
    have HC := hide hc
    clear hc hf
    go_enter Tryz.func46, Tryz.ntmps46
    go_wp2_with fail
    refine (unhide HC).mono ?_
    rintro e w1 ⟨rfl, hb⟩
    have HB := hide hb; clear hb
    go_wp2
    go_ret
    exact ⟨rfl, unhide HB⟩
  | some x =>
    rw [hf] at hc
    simp only [Option.map_some, Option.getD_some, Option.isSome_some] at hc ⊢
    have HC := hide hc
    generalize x.o = xo at *
    clear hc hf
    go_enter Tryz.func46, Tryz.ntmps46
    go_wp2_with fail
    refine (unhide HC).mono ?_
    rintro e w1 ⟨rfl, hb⟩
    have HB := hide hb; clear hb
    go_wp2
    go_ret
    exact ⟨rfl, unhide HB⟩

/-- the document's Pure, by a name -/
def rpu (n : Nat) (l : List UInt8) : Bool :=
  (l == [99, 111, 110, 115, 116] || l == [109, 111, 118, 101] || l == [115, 101, 108, 101, 99, 116] || l == [109, 101, 109, 111, 114, 121, 46, 115, 105, 122, 101] || l == [103, 108, 111, 98, 97, 108, 46, 103, 101, 116]) ||
  (!(l == [] || decide (n < 67) || decide (192 ≤ n)) && (decide (l.length < 7) || (!((l.drop 4).take 3 == [100, 105, 118]) && !((l.drop 4).take 3 == [114, 101, 109]))))
set_option maxRecDepth 100000 in
theorem rpu_all : ((List.range 256).all fun n => rpu n (rnm n) == pur n) = true := by kernel_rfl
theorem rpu_at (n : Nat) (hn : n < 256) : rpu n (rnm n) = pur n := by
  have := List.all_eq_true.1 rpu_all n (List.mem_range.2 hn)
  simpa using this
theorem rnm_len : ∀ n, n < 256 → (rnm n).length < 100 := by
  have h : ((List.range 256).all fun n => decide ((rnm n).length < 100)) = true := by kernel_rfl
  intro n hn
  have := List.all_eq_true.1 h n (List.mem_range.2 hn)
  simpa using this

end Vc
end Go.Proofs.YtheopjcmhclgdaaGreatDoor
