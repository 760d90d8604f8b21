/- slices.Backward over bytes; Load. -/
import Derived.RangeFuncNested
import Derived.RangeFuncBound
import Derived.RangeFuncCalls
import Derived.RangeFuncLeaves
import Derived.RangeFuncBox
import Derived.Shelf.Abstract
import Derived.OwnWalkIn
import Derived.TacticsInMore
import Derived.LoopNIn
import Derived.LoopIn
import Derived.Test.YtcljcnaglkbjcaaGreatDoorMemB
import Derived.Test.YtcljcnaglkbjcaaGreatDoorMemM
namespace Go.Proofs.YtcljcnaglkbjcaaGreatDoor
open Go.RowKit Go.Shelf Mm
set_option linter.unusedVariables false
attribute [local go_sem] Oper.semAt_some

/-- what has come when k rounds are over: the last k, backwards -/
def back (zs : List Int) (f s k : Nat) : List (Nat × Int) := (List.range k).map fun j => (s - 1 - j, zs[f + (s - 1 - j)]?.getD 0)
theorem back_succ (zs : List Int) (f s k : Nat) : back zs f s (k + 1) = back zs f s k ++ [(s - 1 - k, zs[f + (s - 1 - k)]?.getD 0)] := by simp [back, List.range_succ]
theorem back_length (zs : List Int) (f s k : Nat) : (back zs f s k).length = k := by simp [back]

/-- what a round keeps: all below n₀, and the box at Bs -/
def KB (n₀ Bs : Nat) (A B : World) : Prop := Below n₀ A B ∧ ∀ v, A.cell? ⟨Bs, 0, none⟩ = some v → B.cell? ⟨Bs, 0, none⟩ = some v
theorem KB_t {n₀ Bs : Nat} {A B C : World} (h : KB n₀ Bs A B) (k : KB n₀ Bs B C) : KB n₀ Bs A C := ⟨h.1.trans k.1, fun v hv => k.2 v (h.2 v hv)⟩
theorem KB_b {n₀ Bs : Nat} {w : World} (hn : n₀ ≤ w.heap.size) (W : World) (l : Nat) (o o' : Obj) (hl : w.heap.size ≤ l) (h : W.heap[l]? = some o) (ho : o.isCells = false) (hw : o.isWalk = false) : KB n₀ Bs W (W.putObj l o') :=
  ⟨belowK_b hn W l o o' hl h ho hw, fun v hv => cell_kept hv (grownBy_putObj' W l o') (fun r e => by cases e; exact ⟨o, h, ho⟩)⟩

set_option maxRecDepth 100000 in
set_option maxHeartbeats 2000000 in
theorem backward1_in (F : Fence) (n : Nat) (h7 : F.fn 91) (hro : F.round = none) (hn : 1 ≤ n) (l Bs n₀ b f s cap : Nat) (zs : List Int) (hs : s ≤ 8) (hb : b < n₀) (J Jx : List (Nat × Int) → World → Prop)
    (hY : ∀ pre x W, J pre W → pre.length < s → YieldAt F (n - 1) Tryz.prog l #[.int .i64 (x.1 : Int), .int .u8 x.2] W fun e W' =>
      (e = .returned (.bool true) ∧ J (pre ++ [x]) W' ∧ KB n₀ Bs W W') ∨ (e = .returned (.bool false) ∧ Jx (pre ++ [x]) W'))
    (W : World) (hBs : W.cell? ⟨Bs, 0, none⟩ = some (.slice (some ⟨b, f, none⟩) s cap)) (hc : ∀ j, j < s → W.cell? ⟨b, f + j, none⟩ = some (.int .u8 (zs[f + j]?.getD 0))) (h0 : J [] W) :
    CallsIn F n Tryz.prog 91 #[.func (.yield l) #[] #[], .pointer (some ⟨Bs, 0, none⟩)] W fun e W' => (∃ v, e = .returned v) ∧
      ((∃ ys, ys = back zs f s s ∧ J ys W') ∨ (∃ pre, (∃ k, k ≤ s ∧ pre = back zs f s k) ∧ Jx pre W')) := by
  refine callsIn_of_wp Tryz.func91 rfl h7 ?_ hro
  simp only [Tryz.ntmps91, List.size_toArray, List.length_cons, List.length_nil, Nat.reduceAdd, Nat.reduceSub, Array.replicate_succ, Array.replicate_zero, List.push_toArray, List.append_toArray, List.nil_append, List.cons_append]
  gi_wp2
  gi_loopw [3] (fun i wr => ∃ k : Nat, k ≤ s ∧ i = .int .i64 ((s : Int) - 1 - k) ∧ J (back zs f s k) wr ∧ KB n₀ Bs W wr)
    (fun i _ => (intOf i + 1).toNat)
  case atStart => exact ⟨0, Nat.zero_le _, by go_num, h0, Below.refl _ _, fun _ h => h⟩
  case round =>
    obtain ⟨k, hk, rfl, hJs, hnx⟩ := hrel
    by_cases hlt : k < s
    · obtain ⟨i, hi⟩ : ∃ i : Nat, i = s - 1 - k := ⟨_, rfl⟩
      have ei : (s : Int) - 1 - k = (i : Int) := by omega
      have hcx : wr.cell? ⟨b, f + i, none⟩ = some (.int .u8 (zs[f + i]?.getD 0)) := (hnx.1.cell (p := ⟨b, f + i, none⟩) hb).trans (hc i (by omega))
      have hBx : wr.cell? ⟨Bs, 0, none⟩ = some (.slice (some ⟨b, f, none⟩) s cap) := hnx.2 _ hBs
      obtain ⟨fn, tmps, assign, body, hy, hR⟩ := hY _ (i, zs[f + i]?.getD 0) wr hJs (by rw [back_length]; exact hlt)
      dsimp only at hy
      have his : i < s := by omega
      have HI := hide hi
      rw [ei]
      have hk2 : (i : Int) - 1 = (s : Int) - 1 - ((k + 1 : Nat) : Int) := by omega
      have HK := hide hk2
      have HE := hide ei
      clear hi hk2 ei
      gi_wp2
      refine hR.mono ?_
      rintro e W3 (⟨rfl, hJ3, hk3⟩ | ⟨rfl, hJx3⟩)
      · gi_wp2
        go_roundw
        case rel => exact ⟨k + 1, by omega, by rw [← unhide HK], by rw [back_succ, ← unhide HI]; exact hJ3, KB_t hnx hk3⟩
        case measure => simp [intOf]
      · gi_wp2
        refine bodyPost_ret (results_none rfl _ _ _) rfl ?_
        exact ⟨⟨_, rfl⟩, .inr ⟨_, ⟨k + 1, by omega, by rw [back_succ, ← unhide HI]⟩, hJx3⟩⟩
    · obtain rfl : k = s := by omega
      have ei : (k : Int) - 1 - k = -1 := by omega
      rw [ei]
      gi_wp2
      go_end0
      exact ⟨⟨_, rfl⟩, .inl ⟨_, rfl, hJs⟩⟩

set_option maxHeartbeats 1000000 in
theorem backward_in (F : Fence) (n : Nat) (h5 : F.fn 64) (hro : F.round = none) (a : Option Addr) (len cap : Nat) (w : World) :
    CallsIn F n Tryz.prog 64 #[.slice a len cap] w fun e w' => e = .returned (.func (.func 91) #[] #[.pointer (some ⟨w.heap.size, 0, none⟩)]) ∧ w' = w.alloc (.cells #[.slice a len cap] 105) := by
  refine callsIn_of_wp Tryz.func64 rfl h5 ?_ hro
  simp only [Tryz.ntmps64, List.size_toArray, List.length_cons, List.length_nil, Nat.reduceAdd, Nat.reduceSub, Array.replicate_succ, Array.replicate_zero, List.push_toArray, List.append_toArray, List.nil_append, List.cons_append]
  gi_wp2
  go_ret
  exact ⟨rfl, rfl⟩

theorem backward_stops (F : Fence) (n : Nat) (h7 : F.fn 91) (hro : F.round = none) (hn : 1 ≤ n) (Bs n₀ b f s cap : Nat) (zs : List Int) (hs : s ≤ 8) (hb : b < n₀) (w : World) (hBs : Bs < w.heap.size) (hn₀ : n₀ ≤ w.heap.size)
    (hc0 : w.cell? ⟨Bs, 0, none⟩ = some (.slice (some ⟨b, f, none⟩) s cap)) (hc : ∀ j, j < s → w.cell? ⟨b, f + j, none⟩ = some (.int .u8 (zs[f + j]?.getD 0))) :
    SeqStopsK F n Tryz.prog 91 #[.pointer (some ⟨Bs, 0, none⟩)] (fun x : Nat × Int => #[Value.int .i64 (x.1 : Int), Value.int .u8 x.2]) (KB n₀ Bs) (fun ys => ys = back zs f s s)
      (fun pre => ∃ k, k ≤ s ∧ pre = back zs f s k) s w := fun l J Jx W hW _ _ hY h0 =>
  backward1_in F n h7 hro hn l Bs n₀ b f s cap zs hs hb J Jx hY W ((hW.cell (p := ⟨Bs, 0, none⟩) (by simp; omega)).trans hc0)
    (fun j hj => (hW.cell (p := ⟨b, f + j, none⟩) (by simp; omega)).trans (hc j hj)) h0

def accW (xs : List (Nat × Int)) : Int := xs.foldl (fun v x => bits .or .u64 (IntKind.u64.wrap (v * 256)) (IntKind.u64.wrap x.2)) 0
theorem accW_snoc (xs : List (Nat × Int)) (x : Nat × Int) : accW (xs ++ [x]) = bits .or .u64 (IntKind.u64.wrap (accW xs * 256)) (IntKind.u64.wrap x.2) := by simp [accW]
theorem accW_back (zs : List Int) (f s : Nat) (hs : s ≤ 8) (hb : ∀ i : Nat, 0 ≤ zs[i]?.getD 0 ∧ zs[i]?.getD 0 ≤ 255) : ∀ k, k ≤ s → accW (back zs f s k) = ldZ zs (f + (s - k)) k
  | 0, _ => rfl
  | k + 1, h => by
    have hbd := ldZ_bd k zs (f + (s - k)) hb
    have hp : (256 : Int) ^ k ≤ 256 ^ 7 := by rcases (show k = 0 ∨ k = 1 ∨ k = 2 ∨ k = 3 ∨ k = 4 ∨ k = 5 ∨ k = 6 ∨ k = 7 from by omega) with rfl | rfl | rfl | rfl | rfl | rfl | rfl | rfl <;> decide
    have hp7 : (256 : Int) ^ 7 = 72057594037927936 := by decide
    have hx := hb (f + (s - 1 - k))
    rw [back_succ, accW_snoc, accW_back zs f s hs hb k (by omega), ldZ, show f + (s - (k + 1)) = f + (s - 1 - k) from by omega, show f + (s - k) = f + (s - 1 - k) + 1 from by omega]
    rw [show f + (s - k) = f + (s - 1 - k) + 1 from by omega] at hbd
    rw [IntKind.wrap_u64, IntKind.wrap_u64, Int.emod_eq_of_lt (by omega) (by omega), Int.emod_eq_of_lt (by omega) (by omega), or_step _ _ hbd.1 (by omega) hx.1 hx.2]

set_option maxRecDepth 100000 in
set_option maxHeartbeats 2000000 in
theorem load_yes {w : World} {b g n cap : Nat} {most : Int} {zs : List Int} (hm : MemAt w b g n cap most zs) (a o s : Int) (ha : U64 a) (ho : U64 o) (hf : fits n a o s = true) :
    Calls Tryz.prog 31 #[.pointer (some ⟨b, 0, none⟩), .int .u64 a, .int .u64 o, .int .i64 s] w fun e w' =>
      e = .returned (.tuple #[.int .u64 (ldZ zs (a + o).toNat s.toNat), .bool true]) ∧ Below w.heap.size w w' := by
  obtain ⟨h1, h2⟩ := fits_iff.1 hf
  have hpl := place_yes hm a o s ha ho hf
  have a0 := ha.1; have o0 := ho.1
  obtain ⟨f, hfe⟩ := Int.eq_ofNat_of_zero_le (show 0 ≤ a + o by omega)
  obtain ⟨s', rfl⟩ := Int.eq_ofNat_of_zero_le (show 0 ≤ s by omega)
  rw [hfe] at hpl h2 ⊢
  simp only [Int.toNat_natCast] at hpl ⊢
  have hs8 : s' ≤ 8 := by omega
  have hfn : f + s' ≤ n := by omega
  have HM := hide hm
  clear hm hf hfe h1 h2 a0 o0 ha ho
  refine (callsIn_wide (n := 9)).1 ?_
  refine callsIn_of_wp_marks Tryz.func31 rfl trivial ?_ rfl
  simp only [Tryz.ntmps31, List.size_toArray, List.length_cons, List.length_nil, Nat.reduceAdd, Nat.reduceSub, Array.replicate_succ, Array.replicate_zero, List.push_toArray, List.append_toArray, List.nil_append, List.cons_append]
  gi_wp2_with (first | (refine ⟨trivial, ?_⟩; gi_at_call 63; refine (callsIn_wide.2 hpl).mono ?_; rintro e w' ⟨rfl, rfl⟩) | (refine ⟨trivial, ?_⟩; gi_at_call 64; refine (backward_in Fence.wide _ trivial rfl _ _ _ _).mono ?_; rintro e w' ⟨rfl, rfl⟩))
  clear hpl
  have bS := Boxed.new w 72 (.int .u64 0)
  have bN := Boxed.new (w.alloc (.cells #[.int .u64 0] 72)) 105 (.slice (some ⟨g, f, none⟩) s' (cap - f))
  rw [World.size_alloc] at bN
  have hB0 : Below w.heap.size w ((w.alloc (.cells #[.int .u64 0] 72)).alloc (.cells #[.slice (some ⟨g, f, none⟩) s' (cap - f)] 105)) := ((Below.refl _ w).alloc (Nat.le_refl _) _).alloc (by simp) _
  have hmB := (unhide HM).below (Nat.le_refl _) hB0
  have hlg := (unhide HM).ltg
  refine wpIn_rangeFunc_ownG rfl (by omega) (gf := 91) (lb := #[.pointer (some ⟨w.heap.size + 1, 0, none⟩)]) rfl trivial (enters_of Tryz.func91 (by kernel_rfl) rfl)
    (backward_stops Fence.wide (9 - 1) trivial rfl (by omega) (w.heap.size + 1) w.heap.size g f s' (cap - f) zs hs8 hlg _ (by simp) (by simp; omega) bN.cell (fun j hj => hmB.cell (f + j) (by omega))) KB_t (KB_b (by simp; omega)) (Below.refl _ _) (fun _ => rfl)
    (fun pre W => (W.cell? ⟨w.heap.size, 0, none⟩ = some (.int .u64 (accW pre)) ∧ W.frozen? ⟨w.heap.size, 0, none⟩ = false) ∧ Below w.heap.size w W)
    (fun _ _ _ => False)
    (OwnFrom.and (Own.from (fun s A B row hs hg hr => ⟨cell_kept hs.1 hg hr, (frozen_kept hs.1 hg hr).trans hs.2⟩) _) (ownFrom_below (Nat.le_refl _) (by simp; omega)))
    (fun _ _ _ _ _ hs _ _ => hs)
    ⟨⟨(bS.alloc _).cell, (bS.alloc _).frozen⟩, hB0⟩
    (fun x => { tmps := #[Value.pointer (some { block := b, off := 0 }), Value.int IntKind.u64 a, Value.int IntKind.u64 o, Value.int IntKind.i64 s', undef, undef, undef, undef, Value.int IntKind.u64 0, Value.bool false,
          Value.slice (some { block := g, off := f }) s' (cap - f), Value.bool true,
          Value.pointer (some { block := w.heap.size, off := 0 }), undef, Value.int .u8 x.2,
          Value.tuple #[Value.slice (some { block := g, off := f }) s' (cap - f), Value.bool true],
          Value.pointer (some { block := b, off := 0 }), Value.int IntKind.u64 a, Value.int IntKind.u64 o,
          Value.int IntKind.i64 s',
          Value.tuple #[Value.slice (some { block := g, off := f }) s' (cap - f), Value.bool true],
          Value.slice (some { block := g, off := f }) s' (cap - f), Value.bool true, Value.bool true, Value.bool false,
          Value.slice (some { block := g, off := f }) s' (cap - f),
          Value.func (Fn.func 91) #[] #[Value.pointer (some { block := w.heap.size + 1, off := 0 })], Value.int .i64 (x.1 : Int), Value.int .u8 x.2,
          undef, undef, undef, undef, undef, undef], defers := [] }) ?assign ?body ?done ?stop
  case assign =>
    intro l x W K hK
    gi_wp2
    exact hK
  case body =>
    rintro l pre x W ⟨⟨hc, hf⟩, hB⟩ _
    gi_wp2
    exact ⟨(KeepsOthers.setCell _ _ _).from _, ⟨(Below.refl w.heap.size W).setCell (p := ⟨w.heap.size, 0, none⟩) (Nat.le_refl _) _, fun v hv => (World.cell?_of_block (Below.heap_setCell _ _ _ _ (by simp))).trans hv⟩,
      ⟨by rw [accW_snoc]; exact World.cell?_setCell_same' _ _ _ (by rw [hc]; rfl), by rw [World.frozen?_setCell]; exact hf⟩, hB.setCell (p := ⟨w.heap.size, 0, none⟩) (Nat.le_refl _) _⟩
  case done =>
    rintro D ys W hD rfl ⟨⟨hc, _⟩, hB⟩ hK
    gi_wp2
    refine ⟨by simp, .inl ⟨_, _, rfl, run_takeDeferred hK, ?_⟩⟩
    refine ⟨_, results_tmp2 rfl _ _ _, ?_, hB.trans (belowK_b (w := w) (Nat.le_refl _) W D _ _ (by simp at hD; omega) hK rfl rfl)⟩
    have e := accW_back zs f s' hs8 (unhide HM).byt_at s' (Nat.le_refl _)
    rw [Nat.sub_self, Nat.add_zero] at e
    rw [← e]
    rfl
  case stop =>
    rintro D c pre W _ _ h _
    exact h.elim

set_option maxHeartbeats 1000000 in
theorem load_no {w : World} {b g n cap : Nat} {most : Int} {zs : List Int} (hm : MemAt w b g n cap most zs) (a o s : Int) (ha : U64 a) (ho : U64 o) (hs64 : -9223372036854775808 ≤ s ∧ s < 9223372036854775808) (hf : fits n a o s = false) :
    Calls Tryz.prog 31 #[.pointer (some ⟨b, 0, none⟩), .int .u64 a, .int .u64 o, .int .i64 s] w fun e w' =>
      e = .returned (.tuple #[.int .u64 0, .bool false]) ∧ w = w' := by
  have hpl := place_no hm a o s ha ho hs64 hf
  clear hm hf ha ho hs64
  go_enter Tryz.func31, Tryz.ntmps31
  go_wp2_with fail
  refine hpl.mono ?_
  rintro e w1 ⟨rfl, rfl⟩
  clear hpl
  go_wp2
  go_ret2
  exact ⟨rfl, rfl⟩
end Go.Proofs.YtcljcnaglkbjcaaGreatDoor
