/- append(own, make([]byte, k)...): k noughts behind a row of the call's own; Grow. -/
import Derived.Test.YtdeblcbdapggnaaMemB
import Derived.Lib.AppendZerosOnto
namespace Go.Proofs.Ytdeblcbdapggnaa
open Go.RowKit
set_option linter.unusedVariables false

theorem zeros_list (k : Nat) : (Builtin.zeroCells (Value.int .u8 0).cells k).toList = (List.replicate k (0 : Int)).map (Value.int .u8) := by
  apply List.ext_getElem
  · simp [Builtin.zeroCells, Value.cells]
  · intro i h1 h2
    simp [Builtin.zeroCells, Value.cells, Nat.mod_one]

theorem take_app {α : Type} (A B : List α) (m : Nat) (h : A.length = m) : (A ++ B).take m = A := by subst h; simp

/-- there is room: the noughts are written into the row -/
theorem run_append_room_zeros (w : World) (g n cap k : Nat) (cur : Array Value) (ty : TypeId) (hg : w.heap[g]? = some (.cells cur 5 (0, 0))) (hcs : cur.size = cap) (hroom : n + k ≤ cap) (hk : k ≤ 65536) :
    (Builtin.append_ #[45, 32] ty #[.slice (some ⟨g, 0, none⟩) n cap, .int .u64 k]).run Try.prog w =
      .ok (.slice (some ⟨g, 0, none⟩) (n + k) cap) (w.setRow g (cur.toList.take n ++ (List.replicate k (0 : Int)).map (Value.int .u8) ++ cur.toList.drop (n + k)).toArray) := by
  obtain ⟨i0, hi, hz0, hz1, hz2⟩ := info_parts Try.info5
  have hw : IntKind.i64.wrap (k : Int) = k := by rw [IntKind.wrap_i64]; omega
  have hneg : ¬ ((k : Int) < 0) := by omega
  have h48i : ¬ (281474976710656 < (k : Int)) := by omega
  have hst := run_storeCells_at Try.prog g n 5 ((List.replicate k (0 : Int)).map (Value.int .u8)) 0 cur w hg (by simp; omega) (by intro u hu; simp at hu; rw [hu.2]; rfl)
  simp only [Nat.add_zero, List.length_map, List.length_replicate] at hst
  by_cases hk0 : k = 0
  · subst hk0
    simp only [List.replicate_zero, List.map_nil] at hst
    simp [Builtin.append_, run_underlying Try.underlying45, run_underlying Try.underlying32, sizeOf, typeInfo, hi, hz1, hz2, asInt, asIntOf, IntKind.wrap_i64, show n ≤ cap from by omega, Addr.add_lit, hst]
  · have hzl := zeros_list k
    simp only [List.map_replicate] at hst hzl ⊢
    simp [Builtin.append_, run_underlying Try.underlying45, run_underlying Try.underlying32, sizeOf, typeInfo, zeroValue, hi, hz0, hz1, hz2, asInt, asIntOf, hw, hneg, hk0, h48i, hroom, Addr.add_lit, hzl, hst]

/-- what append leaves, whether there was room or not -/
theorem append_zeros (w : World) (g n cap k : Nat) (cur : Array Value) (xs : List Value) (ty : TypeId) (hg : w.heap[g]? = some (.cells cur 5 (0, 0))) (hcs : cur.size = cap) (hx : cur.toList.take n = xs) (hn : n ≤ cap) (hcm : cap ≤ maxLen) (hnk : n + k ≤ 65536) :
    ∃ g' cap' w', (Builtin.append_ #[45, 32] ty #[.slice (some ⟨g, 0, none⟩) n cap, .int .u64 k]).run Try.prog w = .ok (.slice (some ⟨g', 0, none⟩) (n + k) cap') w' ∧
      (∃ cur', w'.heap[g']? = some (.cells cur' 5 (0, 0)) ∧ cur'.size = cap' ∧ cur'.toList.take (n + k) = xs ++ (List.replicate k (0 : Int)).map (Value.int .u8)) ∧ n + k ≤ cap' ∧ cap' ≤ maxLen ∧
      w.grownBy w' (some g) ∧ (g' = g ∨ g' = w.heap.size) := by
  obtain ⟨i0, hi, hz0, hz1, hz2⟩ := info_parts Try.info5
  have hxl : xs.length = n := by rw [← hx]; simp; omega
  by_cases hroom : n + k ≤ cap
  · refine ⟨g, cap, _, run_append_room_zeros w g n cap k cur ty hg hcs hroom (by omega), ⟨_, setRow_heap w g cur _ _ _ hg, ?_, ?_⟩, hroom, hcm, ⟨rfl, rfl, rfl, by simp, fun j _ hj => setRow_other w g j _ (fun e => hj (by simp [e]))⟩, .inl rfl⟩
    · simp; omega
    · rw [hx]
      have : (xs ++ (List.replicate k (0 : Int)).map (Value.int .u8)).length = n + k := by simp [hxl]
      rw [List.toList_toArray]
      exact take_app _ _ _ this
  · have hcells : ∀ j u, xs[j]? = some u → w.drew.cell? ((⟨g, 0, none⟩ : Addr).add j) = some u := by
      intro j u hj
      have hl : j < n := by have := (List.getElem?_eq_some_iff.1 hj).1; omega
      rw [show (⟨g, 0, none⟩ : Addr).add j = ⟨g, j, none⟩ from by unfold Addr.add; split <;> simp_all]
      have hg' : w.drew.heap[g]? = some (.cells cur 5 (0, 0)) := hg
      rw [cell_of_row w.drew g j _ _ _ hg']
      rw [← hx, List.getElem?_take_of_lt hl] at hj
      simpa using hj
    have hold := run_firstCells_some (P := Try.prog) w.drew i0.size n ⟨g, 0, none⟩ n cap xs (by rw [hz1, hxl]; omega) hcells
    have hge := grownCap_ge w (n + k) cap 5
    have hcm2 := grownCap_le_maxLen w (n + k) cap 5 (by unfold maxLen; omega)
    have hr := Lib.run_append_grow_zeros (P := Try.prog) w 45 32 ty 5 i0 (.int .u8 0) .u64 .u64 Try.underlying45 Try.underlying32 hi hz0 (some ⟨g, 0, none⟩) n cap xs hold k (by omega) (by omega) (by omega) (by omega) (by rw [hz2]; omega) (growslice_fits (by omega) (by rw [hz2]; omega))
    refine ⟨w.heap.size, _, _, hr, ⟨_, heap_alloc_new w.drew _, ?_, ?_⟩, hge, hcm2, ⟨rfl, rfl, rfl, by simp, fun j hj _ => Below.heap_alloc w.drew _ j hj⟩, .inr rfl⟩
    · simp [Builtin.zeroCells, Value.cells, hxl]; omega
    · have : (xs ++ (List.replicate k (0 : Int)).map (Value.int .u8)).length = n + k := by simp [hxl]
      rw [Array.toList_append, Array.toList_append, zeros_list, List.toList_toArray]
      exact take_app _ _ _ this

set_option maxHeartbeats 1000000 in
theorem grow_yes {w : World} {b g p cap : Nat} {most : Int} {zs : List Int} (hm : MemAt w b g (p * 4096) cap most zs) (v : Int) (h0 : 0 ≤ v) (hv : v + p ≤ most) (hmost : most ≤ 16) :
    Calls Try.prog 9 #[.pointer (some ⟨b, 0, none⟩), .int .u64 v] w fun e w' =>
      e = .returned (.int .i64 p) ∧ ∃ g' cap', MemAt w' b g' ((p + v.toNat) * 4096) cap' most (zs ++ List.replicate (v.toNat * 4096) 0) ∧ Oth b g w w' ∧ (g' = g ∨ w.heap.size ≤ g') := by
  obtain ⟨q, rfl⟩ := Int.eq_ofNat_of_zero_le h0
  have hpg := pages_any hm
  rw [show p * 4096 / 4096 = p from by omega] at hpg
  have hc0 := hm.c0
  have hc1 := hm.c1
  obtain ⟨cur, hrow, hcs, hx⟩ := hm.row
  obtain ⟨g', cap', w1, hrun, hrow', hr1, hr2, hgb, hgg⟩ := append_zeros w g (p * 4096) cap (q * 4096) cur _ 45 hrow hcs hx hm.room hm.capm (by omega)
  have hb1 : w1.heap[b]? = w.heap[b]? := hgb.block b hm.ltb (by simpa using hm.ne)
  have hcb : w1.cell? ⟨b, 0, none⟩ = some (.slice (some ⟨g, 0, none⟩) (p * 4096) cap) := (World.cell?_of_block hb1).trans hc0
  have hfb : w1.frozen? ⟨b, 0, none⟩ = false := (World.frozen?_of_block hb1).trans (hm.fb 0)
  have hne : g' ≠ b := by
    rintro rfl
    obtain ⟨cur', hc', _⟩ := hrow'
    have := (hb1.trans hm.box).symm.trans hc'
    simp at this
  have hfin : MemAt (w1.setCell ⟨b, 0, none⟩ (.slice (some ⟨g', 0, none⟩) (p * 4096 + q * 4096) cap')) b g' ((p + q) * 4096) cap' most (zs ++ List.replicate (q * 4096) 0) := by
    obtain ⟨cur', hc', hs', hx'⟩ := hrow'
    rw [show (p + q) * 4096 = p * 4096 + q * 4096 from by omega]
    refine ⟨?_, ⟨cur', ?_, hs', by rw [hx']; simp⟩, by simp [hm.len], ?_, hr1, hr2, by omega⟩
    · rw [heap_setCell_same w1 b 0 _ _ _ (hb1.trans hm.box)]; rfl
    · rw [heap_setCell_other w1 _ g' _ (by simpa using hne)]; exact hc'
    · intro z hz
      rcases List.mem_append.1 hz with h | h
      · exact hm.byt z h
      · simp at h; omega
  have hoth : Oth b g w (w1.setCell ⟨b, 0, none⟩ (.slice (some ⟨g', 0, none⟩) (p * 4096 + q * 4096) cap')) :=
    ⟨hgb.os, hgb.tape, hgb.output, by have := hgb.size; simpa [World.setCell] using this, fun k hk h1 h2 => by
      rw [heap_setCell_other w1 _ k _ (by simpa using h1)]; exact hgb.block k hk (by simpa using h2)⟩
  have hgg' : g' = g ∨ w.heap.size ≤ g' := by omega
  have hpq : p + q ≤ 16 := by omega
  have e1 : ((q * 4096 : Nat) : Int) = (q : Int) * 4096 := by omega
  rw [e1] at hrun
  have HF := hide hfin; have HO := hide hoth; have HG := hide hgg'; have HR := hide hrun
  clear hfin hoth hgg' hrow' hr1 hr2 hgb hgg hm hrow hcs hx hb1 hne e1 hrun
  go_enter Try.func9, Try.ntmps9
  go_wp2_with fail
  refine hpg.mono ?_
  rintro e w2 ⟨rfl, rfl⟩
  clear hpg
  go_wp2_with (at_builtin; refine Lib.wpList_append_run _ rfl (.tmp 23) (.tmp 25) 45 32 rfl _ _ rfl rfl _ _ (unhide HR) ?_)
  go_ret
  exact ⟨rfl, g', cap', by simpa using unhide HF, unhide HO, unhide HG⟩

set_option maxHeartbeats 1000000 in
theorem grow_no {w : World} {b g p cap : Nat} {most : Int} {zs : List Int} (hm : MemAt w b g (p * 4096) cap most zs) (v : Int) (h0 : 0 ≤ v) (hv : ¬ v + p ≤ most) (hmost : (p : Int) ≤ most ∧ most ≤ 16) :
    Calls Try.prog 9 #[.pointer (some ⟨b, 0, none⟩), .int .u64 v] w fun e w' => e = .returned (.int .i64 (-1)) ∧ w = w' := by
  have hpg := pages_any hm
  rw [show p * 4096 / 4096 = p from by omega] at hpg
  have hc1 := hm.c1
  have hlt : most - p < v := by omega
  have hm1 := hmost.1; have hm2 := hmost.2
  clear hm hv hmost
  go_enter Try.func9, Try.ntmps9
  go_wp2_with fail
  refine hpg.mono ?_
  rintro e w2 ⟨rfl, rfl⟩
  clear hpg
  go_wp2
  go_ret
  exact ⟨rfl, rfl⟩
end Go.Proofs.Ytdeblcbdapggnaa
