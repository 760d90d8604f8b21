/- The document's Sum. -/
import Derived.Test.YtdeblcbdapggnaaMemO
namespace Go.Proofs.Ytdeblcbdapggnaa
open Go.RowKit Mm
set_option linter.unusedVariables false

theorem sumL_snoc (L : List (Int × Int)) (j : Nat) (h : j < L.length) : (L.take (j + 1)).foldl stepL 14695981039346656037 = stepL ((L.take j).foldl stepL 14695981039346656037) (L[j]?.getD (0, 0)) := by
  rw [List.take_succ_eq_append_getElem h, List.foldl_append]; simp [h]
theorem sumL_bd (L : List (Int × Int)) (j : Nat) : 0 ≤ (L.take j).foldl stepL 14695981039346656037 ∧ (L.take j).foldl stepL 14695981039346656037 < 18446744073709551616 := by
  induction j with
  | zero => simp
  | succ j ih =>
    by_cases h : j < L.length
    · rw [sumL_snoc L j h, stepL, IntKind.wrap_u64]; omega
    · rw [List.take_of_length_le (by omega)]; rw [List.take_of_length_le (by omega)] at ih; exact ih

set_option maxHeartbeats 1000000 in
theorem refSum_any {w : World} {B : Nat} {v : Value} {L : List (Int × Int)} (h : LRow w B v L) (P k : Int) :
    Calls Try.prog 17 #[.agg #[.int .i64 P, .int .i64 k, v]] w fun e w' => e = .returned (.int .u64 (sumL L)) ∧ Below w.heap.size w w' := by
  obtain ⟨ad, cap, rfl, hc1, hc2, hcell⟩ := h.shape
  have hs := h.small
  have hbd := fun i hi => bd_at h.bd i hi
  unfold maxLen at hc2
  have hw1 : Below w.heap.size w (w.alloc (.cells #[.int .i64 P, .int .i64 k, .slice ad L.length cap] 31)) := (Below.refl _ _).alloc (Nat.le_refl _) _
  have HW := hide hw1; have HC := hide hcell; have HB := hide hbd
  clear hw1 hcell hbd h
  go_enter Try.func17, Try.ntmps17
  go_wp2_with fail
  go_loop [3, 4] (fun h i => ∃ j : Nat, j ≤ L.length ∧ i = .int .i64 j ∧ h = .int .u64 ((L.take j).foldl stepL 14695981039346656037)) (fun _ i => (L.length - intOf i).toNat)
  case atStart => exact ⟨0, by omega, rfl, rfl⟩
  case round =>
    obtain ⟨j, hj, rfl, rfl⟩ := hrel
    by_cases hlt : j < L.length
    · obtain ⟨g, rfl, hg, _, hcs⟩ := unhide HC (by omega)
      obtain ⟨c1, c2⟩ := hcs j hlt
      have hb := unhide HB j hlt
      have hst := sumL_snoc L j hlt
      have hHb := sumL_bd L j
      generalize (L.take j).foldl stepL 14695981039346656037 = H at *
      generalize L[j]?.getD (0, 0) = x at *
      obtain ⟨p, c⟩ := x
      rw [stepL] at hst
      have HS := hide hst
      have d1 : (w.alloc (.cells #[.int .i64 P, .int .i64 k, .slice (some ⟨g, 0, none⟩) L.length cap] 31)).cell? ⟨g, j * 2, none⟩ = some (.int .u64 p) := ((unhide HW).cell (p := ⟨g, j * 2, none⟩) hg).trans c1
      have d2 : (w.alloc (.cells #[.int .i64 P, .int .i64 k, .slice (some ⟨g, 0, none⟩) L.length cap] 31)).cell? ⟨g, j * 2 + 1, none⟩ = some (.int .u8 c) := ((unhide HW).cell (p := ⟨g, j * 2 + 1, none⟩) hg).trans c2
      have hj2 : (j : Int) < L.length := by omega
      clear hst c1 c2 hcs hlt hj
      go_wp2
      go_round
      case rel => exact ⟨j + 1, by omega, by go_num, by rw [unhide HS]⟩
      case measure => simp [intOf]; omega
    · obtain rfl : j = L.length := by omega
      rw [List.take_length]
      go_wp2
      go_ret
      exact ⟨rfl, unhide HW⟩
end Go.Proofs.Ytdeblcbdapggnaa
