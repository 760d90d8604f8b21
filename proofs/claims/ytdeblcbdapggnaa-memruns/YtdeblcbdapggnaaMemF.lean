/- Bytes: a copy. -/
import Derived.Test.YtdeblcbdapggnaaMemB
import Derived.Laws.CopyOwn
import Derived.BigRegion
namespace Go.Proofs.Ytdeblcbdapggnaa
open Go.RowKit
set_option linter.unusedVariables false

/-- A slice of bytes at block g, from offset 0 on. -/
def Bys (w : World) (g n cap : Nat) (zs : List Int) : Prop :=
  zs.length = n ∧ n ≤ cap ∧ g < w.heap.size ∧ ∀ i, i < n → w.cell? ⟨g, i, none⟩ = some (.int .u8 (zs[i]?.getD 0))

set_option maxHeartbeats 1000000 in
theorem bytes_yes {w : World} {b g n cap : Nat} {most : Int} {zs : List Int} (hm : MemAt w b g n cap most zs) (a k : Nat) (hk : a + k ≤ n) (hk1 : 1 ≤ k) :
    Calls Try.prog 15 #[.pointer (some ⟨b, 0, none⟩), .int .i64 a, .int .i64 k] w fun e w' =>
      e = .returned (.tuple #[.slice (some ⟨w.heap.size, 0, none⟩) k k, .nilIface]) ∧ Bys w' w.heap.size k k ((zs.drop a).take k) ∧ Below w.heap.size w w' := by
  have h0 := hm.c0
  have hs := hm.small
  have hr := hm.room
  have hcm := hm.capm
  unfold maxLen at hcm
  have hmin : min (a : Int) (n : Int) = (a : Int) := by omega
  have HM := hide hm
  clear hm
  have hca : ¬ cap = a := by omega
  have hmk := fun wx => run_make_row' (P := Try.prog) 45 5 (.int .u8 0) 1 Try.underlying45 Try.info5 rfl .i64 .i64 k (by omega) (by omega) wx
  obtain ⟨C, hC⟩ : ∃ C : List Value, madeCells #[Value.int .u8 0] k = C.toArray := ⟨(madeCells #[Value.int .u8 0] k).toList, by simp⟩
  have hCl : C.length = k := by have h := congrArg Array.size hC; simp [madeCells] at h; omega
  rw [hC] at hmk
  clear hC
  have HC := hide hCl; clear hCl
  obtain ⟨i0, hi, hz0, hz1, hz2⟩ := info_parts Try.info5
  have hsz : (Try.prog.info? 5).map (·.size) = some 1 := by rw [hi]; simp [hz1]
  have hw1 : Below w.heap.size w (w.alloc (.cells C.toArray 5)).drew := ((Below.refl _ _).alloc (Nat.le_refl _) _).drew
  obtain ⟨ys, hys⟩ : ∃ ys, ys = (zs.drop a).take k := ⟨_, rfl⟩
  rw [← hys]
  have hyl : ys.length = k := by have := (unhide HM).len; rw [hys]; simp; omega
  have hcs : ∀ j : Nat, j < k → (w.alloc (.cells C.toArray 5)).drew.cell? ⟨g, a + j, none⟩ = some (.int .u8 (ys[j]?.getD 0)) := by
    intro j hj
    rw [((unhide HM).below (Nat.le_refl _) hw1).cell (a + j) (by omega), hys, List.getElem?_take_of_lt hj, List.getElem?_drop]
  have HY := hide hyl; have HCS := hide hcs; have HW := hide hw1
  clear hyl hcs hys hw1 hi hz0 hz1 hz2
  go_enter Try.func15, Try.ntmps15
  go_wp2
  go_region
  go_wp2_with (refine wpList_copy_splice rfl (.tmp 40) (.tmp 41) 45 45 rfl 5 Try.underlying45 hsz _ _ _ _ _ _ rfl rfl w.heap.size 0 C 5 ?hg (ys.map (Value.int .u8)) ?hn ?hpos ?hfit ?h1 w.heap.size w (unhide HW) (Nat.le_refl _) ?_)
  case hg => exact heap_alloc_new _ _
  case hn => have := unhide HY; rw [List.length_map, this]; exact (Nat.min_eq_right (by omega)).symm
  case hpos =>
    intro _ j z hj
    have hj2 : j < k := by
      have := (List.getElem?_eq_some_iff.1 hj).1; have := unhide HY; omega
    have h := unhide HCS j hj2
    rw [hj] at h
    exact h
  case hfit => have := unhide HY; have := unhide HC; simp; omega
  case h1 => exact ints_oneCell _ _
  intro w2 HG hb2
  have hfin : Bys w2 w.heap.size k k ys := by
    have hl := unhide HY
    have hl2 := unhide HC
    refine ⟨hl, Nat.le_refl _, (Array.getElem?_eq_some_iff.1 HG.out).1, fun i hi => ?_⟩
    rw [cell_of_row w2 _ i _ _ _ HG.out]
    have : i < ys.length := by omega
    simp only [splice, List.take_zero, List.nil_append, List.getElem?_toArray]
    rw [List.getElem?_append_left (by simp; omega), List.getElem?_map, List.getElem?_eq_getElem this]
    rfl
  have HF := hide hfin; have HB := hide hb2
  clear hfin hb2 HG hmk
  go_wp2
  go_ret2
  exact ⟨rfl, unhide HF, unhide HB⟩
end Go.Proofs.Ytdeblcbdapggnaa
