/- The writer: one, unsigned, signed. -/
import Derived.Test.YtjhmglefejclpaaDoorExW
import Derived.Test.YtjhmglefejclpaaDoorOwn
import Derived.Deep.RegionHeld3
import Derived.Deep.RegionLaw
import Derived.Deep.DrawnRows
import Derived.Deep.AppendLies
namespace Go.Proofs.YtjhmglefejclpaaDoor
open Go.RowKit
namespace Ex
set_option linter.unusedVariables false
attribute [local go_sem ↓] Go.wp_at_zero Go.wp_at_succ

/-- the writer's box, and the bytes that it laid -/
def Wr (w : World) (N : Nat) (zs : List Int) : Prop := ∃ v, w.heap[N]? = some (.cells #[v] 57 (0, 0)) ∧ w.ownsRow N 5 1 v zs.length (zs.map (Value.int .u8)) ∧ ∀ z ∈ zs, 0 ≤ z ∧ z ≤ 255
theorem Wr.below {w w' : World} {N : Nat} {zs : List Int} (h : Wr w N zs) (hb : Below w.heap.size w w') : Wr w' N zs := by
  obtain ⟨v, h1, h2, h3⟩ := h
  have hlt : N < w.heap.size := (Array.getElem?_eq_some_iff.1 h1).1
  refine ⟨v, (hb.block N hlt).trans h1, ⟨h2.1, ?_⟩, h3⟩
  rcases h2.2 with hn | ⟨g, cap, cur, e1, e2, e3, e4⟩
  · exact .inl hn
  · exact .inr ⟨g, cap, cur, e1, e2, (hb.block g (Array.getElem?_eq_some_iff.1 e3).1).trans e3, e4⟩
theorem Wr.lt {w : World} {N : Nat} {zs : List Int} (h : Wr w N zs) : N < w.heap.size := by obtain ⟨v, h1, _⟩ := h; exact (Array.getElem?_eq_some_iff.1 h1).1
/-- what stays: all below the box; all that is no bytes, and not the box -/
structure Fr (N : Nat) (w w' : World) : Prop where
  lo : Below N w w'
  hi : ∀ k, k < w.heap.size → k ≠ N → (∀ c fr, w.heap[k]? ≠ some (.cells c 5 fr)) → w'.heap[k]? = w.heap[k]?
theorem Fr.on {N : Nat} {w w1 w2 : World} (h : Fr N w w1) (h2 : Fr N w1 w2) : Fr N w w2 := ⟨h.lo.trans h2.lo, fun k hk hne hu => by
  have e := h.hi k hk hne hu
  exact (h2.hi k (Nat.lt_of_lt_of_le hk h.lo.size) hne (fun c fr => by rw [e]; exact hu c fr)).trans e⟩
theorem Fr.of {N : Nat} {w w1 : World} (h : Below w.heap.size w w1) (hN : N ≤ w.heap.size) : Fr N w w1 := ⟨h.mono hN, fun k hk _ _ => h.block k hk⟩
theorem Fr.bx {N Q : Nat} {w w1 : World} {x0 x1 x2 x3 x4 x5 x6 x7 : Value} (h : Fr N w w1) (hb : Bx w Q x0 x1 x2 x3 x4 x5 x6 x7) (hq : Q ≠ N) : Bx w1 Q x0 x1 x2 x3 x4 x5 x6 x7 :=
  (h.hi Q hb.lt hq (fun c fr e => by have := hb.symm.trans e; simp at this)).trans hb
/-- more bytes, laid behind, and the slice stored -/
theorem wr_step {w w2 : World} {N : Nat} {v v' : Value} {zs ds : List Int} (h1 : w.heap[N]? = some (.cells #[v] 57 (0, 0))) (h2 : w.ownsRow N 5 1 v zs.length (zs.map (Value.int .u8))) (h3 : ∀ z ∈ zs ++ ds, 0 ≤ z ∧ z ≤ 255)
    (hown : w2.ownsRow N 5 1 v' (zs.length + ds.length) (zs.map (Value.int .u8) ++ ds.map (Value.int .u8))) (hg : w.grownBy w2 v.ownBlock) :
    Wr (w2.setCell ⟨N, 0, none⟩ v') N (zs ++ ds) ∧ Fr N w (w2.setCell ⟨N, 0, none⟩ v') := by
  have hlt : N < w.heap.size := (Array.getElem?_eq_some_iff.1 h1).1
  have hne : ∀ k, v.ownBlock = some k → k ≠ N ∧ N ≤ k := by
    intro k hk
    refine ⟨?_, (h2.lt k hk).1⟩
    rintro rfl
    rcases h2.2 with ⟨rfl, _⟩ | ⟨g, cap, cur, rfl, _, e3, _⟩
    · cases hk
    · cases hk; have := h1.symm.trans e3; simp at this
  have hN2 : w2.heap[N]? = some (.cells #[v] 57 (0, 0)) := (hg.block N hlt (fun e => (hne N e.symm).1 rfl)).trans h1
  have hS := heap_setCell_same w2 N 0 _ _ v' hN2
  refine ⟨⟨v', by rw [hS]; rfl, ⟨by simp, ?_⟩, h3⟩, ?_⟩
  · rcases hown.2 with ⟨e, h0⟩ | ⟨g, cap, cur, e1, e2, e3, e4⟩
    · exact .inl ⟨e, by rw [List.length_append]; exact h0⟩
    · refine .inr ⟨g, cap, cur, by rw [e1]; simp, e2, ?_, by simpa using e4⟩
      rw [heap_setCell_other w2 ⟨N, 0, none⟩ g v' (by
        rintro rfl
        have := hN2.symm.trans e3
        simp at this)]
      exact e3
  · have hs : Below N w2 (w2.setCell ⟨N, 0, none⟩ v') := (Below.refl _ _).setCell (p := ⟨N, 0, none⟩) (Nat.le_refl _) _
    refine ⟨⟨hs.os.trans hg.os, hs.tape.trans hg.tape, hs.output.trans hg.output, Nat.le_trans hg.size hs.size, fun k hk => (hs.block k hk).trans (hg.block k (by omega) (fun e => by have := hne k e.symm; omega))⟩, fun k hk hkN hu => ?_⟩
    rw [heap_setCell_other w2 ⟨N, 0, none⟩ k v' hkN]
    refine hg.block k hk (fun e => ?_)
    rcases h2.2 with ⟨rfl, _⟩ | ⟨g, cap, cur, rfl, _, e3, _⟩
    · cases e
    · cases e; exact hu _ _ e3

set_option maxRecDepth 100000 in
set_option maxHeartbeats 1600000 in
theorem one_any {w : World} {N : Nat} {zs : List Int} (c : Int) (h : Wr w N zs) (hz : zs.length ≤ 1099511627776) (hc : 0 ≤ c ∧ c ≤ 255) :
    Calls Tryd.prog 25 #[.pointer (some ⟨N, 0, none⟩), .int .u8 c] w fun e w' => e = .returned (.tuple #[]) ∧ Wr w' N (zs ++ [c]) ∧ Fr N w w' := by
  obtain ⟨i0, hi, hz0, hz1, hz2⟩ := info_parts Tryd.info5
  have hlt := h.lt
  have hal := h.below (one_alloc w (.cells #[.int .u8 c] 5))
  obtain ⟨v, h1, h2, h3⟩ := h
  have h1a := ((one_alloc w (.cells #[.int .u8 c] 5)).block N hlt).trans h1
  have h2a := h2.alloc (.cells #[.int .u8 c] 5)
  have c0 : w.cell? ⟨N, 0, none⟩ = some v := by rw [cell_of_row w N 0 _ _ _ h1]; rfl
  have hsh : ∃ a n cp, v = .slice a n cp := by rcases h2.2 with ⟨rfl, _⟩ | ⟨g, cap, cur, rfl, _⟩; exact ⟨_, _, _, rfl⟩; exact ⟨_, _, _, rfl⟩
  obtain ⟨va, vn, vc, rfl⟩ := hsh
  have H1 := hide h1a; have H2 := hide h2a; have H3 := hide h3
  clear hal h1 h2 h3 h1a h2a
  go_enter Tryd.func25, Tryd.ntmps25
  go_wp2_with (at_builtin; refine wpList_append_own _ rfl (.tmp 8) (.tmp 10) 27 rfl N 5 i0 (.int .u8 0) 1 1 Tryd.underlying27 hi hz0 hz1 hz2 rfl (by decide) (.slice va vn vc) zs.length (zs.map (Value.int .u8)) rfl (unhide H2) ⟨w.heap.size, 0, none⟩ 1 1 [.int .u8 c] rfl rfl ?c1 ?c2 ?c3 ?c4 ?c5 ?_)
  case c1 => exact cell_one_new _ _ _
  case c2 => intro u hu; simp at hu; subst hu; rfl
  case c3 => unfold maxLen; omega
  case c4 => omega
  case c5 => simp; omega
  intro v' w2 hown hgrow _
  obtain ⟨g1, g2⟩ := wr_step (ds := [c]) (unhide H1) (unhide H2) (by
    intro z hzz
    rcases List.mem_append.1 hzz with hh | hh
    · exact unhide H3 z hh
    · simp at hh; subst hh; exact hc) hown hgrow
  have hN2 : w2.heap[N]? = some (.cells #[.slice va vn vc] 57 (0, 0)) := by
    refine (hgrow.block N (by simp; omega) ?_).trans (unhide H1)
    intro e
    obtain ⟨cur, hcur⟩ : ∃ cur, (w.alloc (.cells #[.int .u8 c] 5)).heap[N]? = some (.cells cur 5 (0, 0)) := by
      rcases (unhide H2).2 with ⟨e1, _⟩ | ⟨g, cap, cur, e1, _, e3, _⟩
      · rw [e1] at e; cases e
      · rw [e1] at e; cases e; exact ⟨cur, e3⟩
    have := (unhide H1).symm.trans hcur
    simp at this
  have n0 : w2.cell? ⟨N, 0, none⟩ = some (.slice va vn vc) := by rw [cell_of_row w2 N 0 _ _ _ hN2]; rfl
  have n1 : w2.frozen? ⟨N, 0, none⟩ = false := by simp [World.frozen?, hN2]
  have hsh : ∃ a n cp, v' = .slice a n cp := by rcases hown.2 with ⟨rfl, _⟩ | ⟨g, cap, cur, rfl, _⟩; exact ⟨_, _, _, rfl⟩; exact ⟨_, _, _, rfl⟩
  obtain ⟨va', vn', vc', rfl⟩ := hsh
  have G1 := hide g1; have G2 := hide (Fr.on (Fr.of (one_alloc w (.cells #[.int .u8 c] 5)) (Nat.le_of_lt hlt)) g2)
  clear g1 g2 hown hgrow hN2 c0
  go_wp2
  go_end0
  exact ⟨rfl, unhide G1, unhide G2⟩

theorem ownsRow_below {w w' : World} {B e size n : Nat} {v : Value} {xs : List Value} (h : w.ownsRow B e size v n xs) (hb : Below w.heap.size w w') : w'.ownsRow B e size v n xs := by
  refine ⟨h.1, ?_⟩
  rcases h.2 with hn | ⟨g, cap, cur, e1, e2, e3, e4⟩
  · exact .inl hn
  · exact .inr ⟨g, cap, cur, e1, e2, (hb.block g (Array.getElem?_eq_some_iff.1 e3).1).trans e3, e4⟩
theorem row_news {w : World} {g len : Nat} {zs : List Int} (h : Row w (some ⟨g, 0, none⟩) len zs) : ∀ j u, (zs.map (Value.int .u8))[j]? = some u → w.cell? ((⟨g, 0, none⟩ : Addr).add j) = some u := by
  intro j u hj
  simp only [List.getElem?_map, Option.map_eq_some_iff] at hj
  obtain ⟨z, hz, rfl⟩ := hj
  have hj2 : j < len := by have := (List.getElem?_eq_some_iff.1 hz).1; have := h.1; omega
  obtain ⟨b, o, e, _, hc⟩ := h.2.2 (by omega)
  simp only [Option.some.injEq, Addr.mk.injEq] at e
  obtain ⟨rfl, rfl, _⟩ := e
  have : ((⟨g, 0, none⟩ : Addr).add j) = ⟨g, 0 + j, none⟩ := by by_cases h : j = 0 <;> simp [Addr.add, h]
  rw [this, hc j hj2]
  simp [List.getD, hz]
/-- the box behind an append to the bytes -/
theorem wr_box {w w1 w2 : World} {N : Nat} {v : Value} {zs : List Int} (h1 : w.heap[N]? = some (.cells #[v] 57 (0, 0))) (h2 : w.ownsRow N 5 1 v zs.length (zs.map (Value.int .u8))) (hb : Below w.heap.size w w1) (hg : w1.grownBy w2 v.ownBlock) :
    w2.heap[N]? = some (.cells #[v] 57 (0, 0)) := by
  have hlt : N < w.heap.size := (Array.getElem?_eq_some_iff.1 h1).1
  refine (hg.block N (Nat.lt_of_lt_of_le hlt hb.size) (fun e => ?_)).trans ((hb.block N hlt).trans h1)
  rcases h2.2 with ⟨rfl, _⟩ | ⟨g, cap, cur, rfl, _, e3, _⟩
  · cases e
  · cases e; have := h1.symm.trans e3; simp at this
theorem wr_keep {w w1 w2 : World} {N : Nat} {v : Value} {zs : List Int} (h1 : w.heap[N]? = some (.cells #[v] 57 (0, 0))) (h2 : w.ownsRow N 5 1 v zs.length (zs.map (Value.int .u8))) (hb : Below w.heap.size w w1) (hg : w1.grownBy w2 v.ownBlock) :
    w2.cell? ⟨N, 0, none⟩ = some v := by rw [cell_of_row w2 N 0 _ _ _ (wr_box h1 h2 hb hg)]; rfl

theorem wr_fz {w w1 w2 : World} {N : Nat} {v : Value} {zs : List Int} (h1 : w.heap[N]? = some (.cells #[v] 57 (0, 0))) (h2 : w.ownsRow N 5 1 v zs.length (zs.map (Value.int .u8))) (hb : Below w.heap.size w w1) (hg : w1.grownBy w2 v.ownBlock) :
    w2.frozen? ⟨N, 0, none⟩ = false := by simp [World.frozen?, wr_box h1 h2 hb hg]

set_option maxRecDepth 100000 in
set_option maxHeartbeats 3200000 in
theorem uns_any {w : World} {N : Nat} {zs : List Int} (x : Int) (h : Wr w N zs) (hz : zs.length ≤ 1099511627776) (x0 : 0 ≤ x) (x1 : x < 18446744073709551616) :
    Calls Tryd.prog 54 #[.pointer (some ⟨N, 0, none⟩), .int .u64 x] w fun e w' => e = .returned (.tuple #[]) ∧ Wr w' N (zs ++ Leb.bU 10 x) ∧ Fr N w w' := by
  obtain ⟨i0, hi, hz0, hz1, hz2⟩ := info_parts Tryd.info5
  have hlt := h.lt
  have hq := fun (wx : World) => putU_b none 0 0 [] x wx ⟨rfl, by simp, fun h => by omega⟩ x0 x1 (by omega)
  have hpos := Leb.bU_pos 10 x
  have hle := Leb.bU_len 10 x
  simp only [Nat.zero_add, List.nil_append] at hq
  generalize hL : Leb.bU 10 x = L at *
  clear hL
  have HWr := hide h
  obtain ⟨v, h1, h2, h3⟩ := h
  have c0 : w.cell? ⟨N, 0, none⟩ = some v := by rw [cell_of_row w N 0 _ _ _ h1]; rfl
  have f0 : w.frozen? ⟨N, 0, none⟩ = false := by simp [World.frozen?, h1]
  have hsh : ∃ a n cp, v = .slice a n cp := by rcases h2.2 with ⟨rfl, _⟩ | ⟨g, cap, cur, rfl, _⟩; exact ⟨_, _, _, rfl⟩; exact ⟨_, _, _, rfl⟩
  obtain ⟨va, vn, vc, rfl⟩ := hsh
  have HQ := hide hq; have H1 := hide h1; have H2 := hide h2; have H3 := hide h3
  clear hq h1 h2 h3
  go_enter Tryd.func54, Tryd.ntmps54
  go_wp2_with fail
  go_region_law
    (first
      | (refine step_append_lies _ (by rfl) _ _ _ (by rfl) N 5 i0 (.int .u8 0) 1 1 Tryd.underlying27 hi hz0 hz1 hz2 rfl (by decide) (.slice va vn vc) zs.length (zs.map (Value.int .u8)) (by rfl) (ownsRow_below (unhide H2) (Below.on (below_drew w) hb1)) ⟨gg, 0, none⟩ L.length gc (L.map (Value.int .u8)) (by rfl) (by simp) (row_news hrow) (ints_oneCell _ _) (by omega) (by unfold maxLen; omega) (by omega) (by have := hb1.size; simp at this; omega) w1.heap.size rfl ?_; intro g capn w2 hown hgrow hat hlt2; have k0 : w2.cell? ⟨N, 0, none⟩ = some (.slice va vn vc) := wr_keep (unhide H1) (unhide H2) (Below.on (below_drew w) hb1) hgrow; have k1 : w2.frozen? ⟨N, 0, none⟩ = false := wr_fz (unhide H1) (unhide H2) (Below.on (below_drew w) hb1) hgrow)
      | (go_simp; go_at_call 78; refine (unhide HQ _).mono ?_; rintro e w1 ⟨gg, gc, rfl, hrow, hgc, hgg, hb1⟩; have k0 : w1.cell? ⟨N, 0, none⟩ = some (.slice va vn vc) := (hb1.cell (p := ⟨N, 0, none⟩) hlt).trans c0; go_wp2_with fail))
  all_goals
    have hb2 := Below.on (below_drew w) hb1
    obtain ⟨g1, g2⟩ := wr_step (ds := L) ((hb2.block N hlt).trans (unhide H1)) (ownsRow_below (unhide H2) hb2) (by
      intro z hzz
      rcases List.mem_append.1 hzz with hh | hh
      · exact unhide H3 z hh
      · exact hrow.2.1 z hh) hown hgrow
    have G1 := hide g1; have G2 := hide (Fr.on (Fr.of hb2 (Nat.le_of_lt hlt)) g2)
    clear g1 g2 hown hgrow hb1 hb2 k0 k1 c0 f0 hrow
    go_wp2
    go_end0
    exact ⟨rfl, unhide G1, unhide G2⟩

set_option maxRecDepth 100000 in
set_option maxHeartbeats 3200000 in
theorem sgn_any {w : World} {N : Nat} {zs : List Int} (x : Int) (h : Wr w N zs) (hz : zs.length ≤ 1099511627776) (x0 : -9223372036854775808 ≤ x) (x1 : x < 9223372036854775808) :
    Calls Tryd.prog 53 #[.pointer (some ⟨N, 0, none⟩), .int .i64 x] w fun e w' => e = .returned (.tuple #[]) ∧ Wr w' N (zs ++ Leb.bS 10 x) ∧ Fr N w w' := by
  obtain ⟨i0, hi, hz0, hz1, hz2⟩ := info_parts Tryd.info5
  have hlt := h.lt
  have hq := fun (wx : World) => putS_b none 0 0 [] x wx ⟨rfl, by simp, fun h => by omega⟩ x0 x1 (by omega)
  have hpos := Leb.bS_pos 10 x
  have hle := Leb.bS_len 10 x
  simp only [Nat.zero_add, List.nil_append] at hq
  generalize hL : Leb.bS 10 x = L at *
  clear hL
  have HWr := hide h
  obtain ⟨v, h1, h2, h3⟩ := h
  have c0 : w.cell? ⟨N, 0, none⟩ = some v := by rw [cell_of_row w N 0 _ _ _ h1]; rfl
  have f0 : w.frozen? ⟨N, 0, none⟩ = false := by simp [World.frozen?, h1]
  have hsh : ∃ a n cp, v = .slice a n cp := by rcases h2.2 with ⟨rfl, _⟩ | ⟨g, cap, cur, rfl, _⟩; exact ⟨_, _, _, rfl⟩; exact ⟨_, _, _, rfl⟩
  obtain ⟨va, vn, vc, rfl⟩ := hsh
  have HQ := hide hq; have H1 := hide h1; have H2 := hide h2; have H3 := hide h3
  clear hq h1 h2 h3
  go_enter Tryd.func53, Tryd.ntmps53
  go_wp2_with fail
  go_region_law
    (first
      | (refine step_append_lies _ (by rfl) _ _ _ (by rfl) N 5 i0 (.int .u8 0) 1 1 Tryd.underlying27 hi hz0 hz1 hz2 rfl (by decide) (.slice va vn vc) zs.length (zs.map (Value.int .u8)) (by rfl) (ownsRow_below (unhide H2) (Below.on (below_drew w) hb1)) ⟨gg, 0, none⟩ L.length gc (L.map (Value.int .u8)) (by rfl) (by simp) (row_news hrow) (ints_oneCell _ _) (by omega) (by unfold maxLen; omega) (by omega) (by have := hb1.size; simp at this; omega) w1.heap.size rfl ?_; intro g capn w2 hown hgrow hat hlt2; have k0 : w2.cell? ⟨N, 0, none⟩ = some (.slice va vn vc) := wr_keep (unhide H1) (unhide H2) (Below.on (below_drew w) hb1) hgrow; have k1 : w2.frozen? ⟨N, 0, none⟩ = false := wr_fz (unhide H1) (unhide H2) (Below.on (below_drew w) hb1) hgrow)
      | (go_simp; go_at_call 77; refine (unhide HQ _).mono ?_; rintro e w1 ⟨gg, gc, rfl, hrow, hgc, hgg, hb1⟩; have k0 : w1.cell? ⟨N, 0, none⟩ = some (.slice va vn vc) := (hb1.cell (p := ⟨N, 0, none⟩) hlt).trans c0; go_wp2_with fail))
  all_goals
    have hb2 := Below.on (below_drew w) hb1
    obtain ⟨g1, g2⟩ := wr_step (ds := L) ((hb2.block N hlt).trans (unhide H1)) (ownsRow_below (unhide H2) hb2) (by
      intro z hzz
      rcases List.mem_append.1 hzz with hh | hh
      · exact unhide H3 z hh
      · exact hrow.2.1 z hh) hown hgrow
    have G1 := hide g1; have G2 := hide (Fr.on (Fr.of hb2 (Nat.le_of_lt hlt)) g2)
    clear g1 g2 hown hgrow hb1 hb2 k0 k1 c0 f0 hrow
    go_wp2
    go_end0
    exact ⟨rfl, unhide G1, unhide G2⟩
end Ex
end Go.Proofs.YtjhmglefejclpaaDoor
