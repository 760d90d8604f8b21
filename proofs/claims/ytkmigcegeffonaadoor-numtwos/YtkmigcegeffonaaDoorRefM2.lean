/- The document's moved: shifts and turns, bit by bit. -/
import Derived.Test.YtkmigcegeffonaaDoorRefM0
namespace Go.Proofs.YtkmigcegeffonaaDoor
open Go.RowKit Num
set_option linter.unusedVariables false

set_option maxHeartbeats 1600000 in
set_option maxRecDepth 4000 in
theorem moved_shr_u_32 (X : Int) (n : Nat) (w : World) (h0 : 0 ≤ X) (h1 : X < 18446744073709551616) (hn : n < 32) :
    Calls Tryd.prog 37 #[.string ⟨#[115, 104, 114, 95, 117]⟩, .int .u64 X, .int .i64 n, .int .i64 32] w fun e w' =>
      e = .returned (.int .u64 (Num.mk ((List.range 32).map fun k => decide (k + n < 32) && bt X ((k + n) % 32)) : Nat)) ∧ Below w.heap.size w w' := by
  obtain ⟨i0, hi, hz0, hz1, hz2⟩ := info_parts infoB
  generalize hB : w.heap.size = B at *
  have HB := hide hB; clear hB
  generalize hf : (fun k => decide (k + n < 32) && bt X ((k + n) % 32)) = f at *
  have HF := hide hf; clear hf
  go_enter Tryd.func37, Tryd.ntmps37
  go_wp2_with fail
  go_loopw [9, 10] (fun s k wr => ∃ (j : Nat), k = .int .i64 (j : Int) ∧ j ≤ 32 ∧ wr.ownsRow B 4 1 s j (bRow f j) ∧ Below B w wr ∧ B ≤ wr.heap.size) (fun _ k _ => 32 - (intOf k).toNat)
  case atStart => exact ⟨0, rfl, by omega, World.ownsRow_nil _ _ _ _, Below.refl _ _, by rw [unhide HB]; exact Nat.le_refl _⟩
  case round =>
    obtain ⟨j, rfl, hj, hown2, hbel2, hlt2⟩ := hrel
    by_cases hj2 : j = 32
    · subst hj2
      obtain ⟨g, cap, rfl, hl, hcap, hcell⟩ := own_b (bs := (List.range 32).map f) hown2 (by omega)
      have hmd := made_any g 32 cap _ wr hl (by omega) hcap hcell
      have HM := hide hmd; have HBe := hide hbel2
      clear hown2 hbel2 hlt2 hcell hl hmd
      go_wp2_with fail
      refine (unhide HM).mono ?_
      rintro e w1 ⟨rfl, rfl⟩
      go_wp2
      go_ret
      exact ⟨rfl, unhide HBe⟩
    · have HO := hide hown2; have HBe := hide hbel2; have HLt := hide hlt2
      have hj3 : j < 32 := by omega
      clear hown2 hbel2 hlt2 hj hj2
      by_cases hnk : j + n < 32
      · have hnk2 : (j : Int) + (n : Int) < 32 := by omega
        have hc : bt X ((j + n) % 32) = f j := by rw [← unhide HF]; simp only []; simp [hnk]
        have HC := hide hc; clear hc
        go_wp2_with fail
        refine (bit_at X _ ((j + n) % 32) _ h0 h1 (by omega) (by omega)).mono ?_
        rintro e w1 ⟨rfl, rfl⟩
        generalize bt X ((j + n) % 32) = c at *
        go_wp2_with (at_builtin; refine wpList_append_own _ rfl (.tmp 48) (.tmp 63) 66 rfl B 4 i0 (.bool false) 1 1 Tryd.underlying66 hi hz0 hz1 hz2 rfl (by decide) u9 j (bRow f j) rfl ((unhide HO).alloc _) ⟨wr.heap.size, 0, none⟩ 1 1 [.bool c] rfl rfl ?c1 ?c2 ?c3 ?c4 ?c5 ?_)
        case c1 => exact cell_one_new _ _ _
        case c2 => first | rfl | (intro u hu; simp at hu; subst hu; rfl)
        case c3 => unfold maxLen; omega
        case c4 => omega
        case c5 => have := unhide HLt; simp; omega
        intro v' w2 hown3 hgrow _
        have hrel2 := rel_b B w wr w2 u9 v' f j c (unhide HC) (unhide HB) (unhide HBe) (unhide HLt) (unhide HO) hown3 hgrow
        have HR2 := hide hrel2
        clear hown3 hgrow hrel2 HO
        go_wp2
        go_roundw
        case rel => exact ⟨j + 1, by simp, by omega, (unhide HR2).1, (unhide HR2).2.1, (unhide HR2).2.2⟩
        case measure => simp [intOf]; omega
      · have q : decide ((j : Int) + (n : Int) < 32) = false := decide_eq_false (by omega)
        have hc : false = f j := by rw [← unhide HF]; simp [hnk]
        have HC := hide hc; clear hc hnk
        go_wp2_with (at_builtin; refine wpList_append_own _ rfl (.tmp 48) (.tmp 63) 66 rfl B 4 i0 (.bool false) 1 1 Tryd.underlying66 hi hz0 hz1 hz2 rfl (by decide) u9 j (bRow f j) rfl ((unhide HO).alloc _) ⟨wr.heap.size, 0, none⟩ 1 1 [.bool false] rfl rfl ?c1 ?c2 ?c3 ?c4 ?c5 ?_)
        case c1 => exact cell_one_new _ _ _
        case c2 => first | rfl | (intro u hu; simp at hu; subst hu; rfl)
        case c3 => unfold maxLen; omega
        case c4 => omega
        case c5 => have := unhide HLt; simp; omega
        intro v' w2 hown3 hgrow _
        have hrel2 := rel_b B w wr w2 u9 v' f j false (unhide HC) (unhide HB) (unhide HBe) (unhide HLt) (unhide HO) hown3 hgrow
        have HR2 := hide hrel2
        clear hown3 hgrow hrel2 HO
        go_wp2
        go_roundw
        case rel => exact ⟨j + 1, by simp, by omega, (unhide HR2).1, (unhide HR2).2.1, (unhide HR2).2.2⟩
        case measure => simp [intOf]; omega
set_option maxHeartbeats 1600000 in
set_option maxRecDepth 4000 in
theorem moved_shr_u_64 (X : Int) (n : Nat) (w : World) (h0 : 0 ≤ X) (h1 : X < 18446744073709551616) (hn : n < 64) :
    Calls Tryd.prog 37 #[.string ⟨#[115, 104, 114, 95, 117]⟩, .int .u64 X, .int .i64 n, .int .i64 64] w fun e w' =>
      e = .returned (.int .u64 (Num.mk ((List.range 64).map fun k => decide (k + n < 64) && bt X ((k + n) % 64)) : Nat)) ∧ Below w.heap.size w w' := by
  obtain ⟨i0, hi, hz0, hz1, hz2⟩ := info_parts infoB
  generalize hB : w.heap.size = B at *
  have HB := hide hB; clear hB
  generalize hf : (fun k => decide (k + n < 64) && bt X ((k + n) % 64)) = f at *
  have HF := hide hf; clear hf
  go_enter Tryd.func37, Tryd.ntmps37
  go_wp2_with fail
  go_loopw [9, 10] (fun s k wr => ∃ (j : Nat), k = .int .i64 (j : Int) ∧ j ≤ 64 ∧ wr.ownsRow B 4 1 s j (bRow f j) ∧ Below B w wr ∧ B ≤ wr.heap.size) (fun _ k _ => 64 - (intOf k).toNat)
  case atStart => exact ⟨0, rfl, by omega, World.ownsRow_nil _ _ _ _, Below.refl _ _, by rw [unhide HB]; exact Nat.le_refl _⟩
  case round =>
    obtain ⟨j, rfl, hj, hown2, hbel2, hlt2⟩ := hrel
    by_cases hj2 : j = 64
    · subst hj2
      obtain ⟨g, cap, rfl, hl, hcap, hcell⟩ := own_b (bs := (List.range 64).map f) hown2 (by omega)
      have hmd := made_any g 64 cap _ wr hl (by omega) hcap hcell
      have HM := hide hmd; have HBe := hide hbel2
      clear hown2 hbel2 hlt2 hcell hl hmd
      go_wp2_with fail
      refine (unhide HM).mono ?_
      rintro e w1 ⟨rfl, rfl⟩
      go_wp2
      go_ret
      exact ⟨rfl, unhide HBe⟩
    · have HO := hide hown2; have HBe := hide hbel2; have HLt := hide hlt2
      have hj3 : j < 64 := by omega
      clear hown2 hbel2 hlt2 hj hj2
      by_cases hnk : j + n < 64
      · have hnk2 : (j : Int) + (n : Int) < 64 := by omega
        have hc : bt X ((j + n) % 64) = f j := by rw [← unhide HF]; simp only []; simp [hnk]
        have HC := hide hc; clear hc
        go_wp2_with fail
        refine (bit_at X _ ((j + n) % 64) _ h0 h1 (by omega) (by omega)).mono ?_
        rintro e w1 ⟨rfl, rfl⟩
        generalize bt X ((j + n) % 64) = c at *
        go_wp2_with (at_builtin; refine wpList_append_own _ rfl (.tmp 48) (.tmp 63) 66 rfl B 4 i0 (.bool false) 1 1 Tryd.underlying66 hi hz0 hz1 hz2 rfl (by decide) u9 j (bRow f j) rfl ((unhide HO).alloc _) ⟨wr.heap.size, 0, none⟩ 1 1 [.bool c] rfl rfl ?c1 ?c2 ?c3 ?c4 ?c5 ?_)
        case c1 => exact cell_one_new _ _ _
        case c2 => first | rfl | (intro u hu; simp at hu; subst hu; rfl)
        case c3 => unfold maxLen; omega
        case c4 => omega
        case c5 => have := unhide HLt; simp; omega
        intro v' w2 hown3 hgrow _
        have hrel2 := rel_b B w wr w2 u9 v' f j c (unhide HC) (unhide HB) (unhide HBe) (unhide HLt) (unhide HO) hown3 hgrow
        have HR2 := hide hrel2
        clear hown3 hgrow hrel2 HO
        go_wp2
        go_roundw
        case rel => exact ⟨j + 1, by simp, by omega, (unhide HR2).1, (unhide HR2).2.1, (unhide HR2).2.2⟩
        case measure => simp [intOf]; omega
      · have q : decide ((j : Int) + (n : Int) < 64) = false := decide_eq_false (by omega)
        have hc : false = f j := by rw [← unhide HF]; simp [hnk]
        have HC := hide hc; clear hc hnk
        go_wp2_with (at_builtin; refine wpList_append_own _ rfl (.tmp 48) (.tmp 63) 66 rfl B 4 i0 (.bool false) 1 1 Tryd.underlying66 hi hz0 hz1 hz2 rfl (by decide) u9 j (bRow f j) rfl ((unhide HO).alloc _) ⟨wr.heap.size, 0, none⟩ 1 1 [.bool false] rfl rfl ?c1 ?c2 ?c3 ?c4 ?c5 ?_)
        case c1 => exact cell_one_new _ _ _
        case c2 => first | rfl | (intro u hu; simp at hu; subst hu; rfl)
        case c3 => unfold maxLen; omega
        case c4 => omega
        case c5 => have := unhide HLt; simp; omega
        intro v' w2 hown3 hgrow _
        have hrel2 := rel_b B w wr w2 u9 v' f j false (unhide HC) (unhide HB) (unhide HBe) (unhide HLt) (unhide HO) hown3 hgrow
        have HR2 := hide hrel2
        clear hown3 hgrow hrel2 HO
        go_wp2
        go_roundw
        case rel => exact ⟨j + 1, by simp, by omega, (unhide HR2).1, (unhide HR2).2.1, (unhide HR2).2.2⟩
        case measure => simp [intOf]; omega
end Go.Proofs.YtkmigcegeffonaaDoor
