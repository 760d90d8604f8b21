/- The document's own PutU and PutS: the same bytes. -/
import Derived.Test.YtcmidegffpehoaaDoorOwn
namespace Go.Proofs.YtcmidegffpehoaaDoor
open Go.RowKit
set_option linter.unusedVariables false

theorem Leb.tmod_neg (y : Int) (h : y < 0) : y.tmod 128 = if y % 128 = 0 then 0 else y % 128 - 128 := by
  rw [Int.tmod_eq_emod]
  by_cases h0 : y % 128 = 0
  · have : (128 : Int) ∣ y := Int.dvd_of_emod_eq_zero h0
    simp [this, h0]
  · have : ¬ (128 : Int) ∣ y := fun hd => h0 (Int.emod_eq_zero_of_dvd hd)
    simp [h0, this, Int.not_le.2 h]
theorem Leb.tdiv_exact (y l : Int) (h : l = y % 128) : (y - l).tdiv 128 = y / 128 := by
  have : y - l = y / 128 * 128 := by omega
  rw [this, Int.mul_tdiv_cancel _ (by omega)]

set_option maxRecDepth 100000 in
set_option maxHeartbeats 1000000 in
theorem refU_any (v : Int) (w : World) (h0 : 0 ≤ v) (hv : v < 18446744073709551616) :
    Calls Tryd.prog 26 #[.int .u64 v] w fun e w' => ∃ g cap', e = .returned (.slice (some ⟨g, 0, none⟩) (Leb.bU 10 v).length cap') ∧
      Row w' (some ⟨g, 0, none⟩) (Leb.bU 10 v).length (Leb.bU 10 v) ∧ (Leb.bU 10 v).length ≤ cap' ∧ w.heap.size ≤ g ∧ Below w.heap.size w w' := by
  have hN := Leb.bU_len 10 v
  have hP := Leb.bU_pos 10 v
  have hby := Leb.bU_bytes 10 v h0 (by omega)
  obtain ⟨i0, hi, hz0, hz1, hz2⟩ := info_parts Tryd.info5
  generalize hL : Leb.bU 10 v = L at *
  generalize hB : w.heap.size = B at *
  have HB := hide hB; have HL := hide hL; have HY := hide hby; clear hB hL hby
  go_enter Tryd.func26, Tryd.ntmps26
  go_wp2_with fail
  go_loopw [0, 3] (fun x s wr => ∃ (y : Int) (ds : List Int), x = .int .u64 y ∧ 0 ≤ y ∧ y < 18446744073709551616 ∧ ds ++ Leb.bU 10 y = L ∧
      wr.ownsRow B 5 1 s ds.length (ds.map (Value.int .u8)) ∧ Below B w wr ∧ B ≤ wr.heap.size) (fun x _ _ => (Leb.bU 10 (intOf x)).length)
  case atStart => exact ⟨v, [], rfl, h0, hv, unhide HL, World.ownsRow_nil _ _ _ _, Below.refl _ _, by rw [unhide HB]; exact Nat.le_refl _⟩
  case round =>
    obtain ⟨y, ds, rfl, hy0, hy1, hsum, hown2, hbel2, hlt2⟩ := hrel
    have HO := hide hown2; have HS := hide hsum; have HBe := hide hbel2; have HLt := hide hlt2
    have hdl : ds.length + 1 ≤ 11 := by have h1 := Leb.bU_pos 10 y; have : L.length = ds.length + (Leb.bU 10 y).length := by rw [← hsum]; simp
                                        omega
    clear hown2 hsum hbel2 hlt2
    by_cases hlt : 127 < y
    · go_wp2_with (at_builtin; refine wpList_append_own _ rfl (.tmp 6) (.tmp 11) 22 rfl B 5 i0 (.int .u8 0) 1 1 Tryd.underlying22 hi hz0 hz1 hz2 rfl (by decide) u3 ds.length (ds.map (Value.int .u8)) rfl ((unhide HO).alloc _) ⟨wr.heap.size, 0, none⟩ 1 1 [.int .u8 (y % 128 + 128)] rfl rfl ?c1 ?c2 ?c3 ?c4 ?c5 ?_)
      case c1 => exact cell_one_new _ _ _
      case c2 => intro u hu; simp at hu; subst hu; rfl
      case c3 => unfold maxLen; omega
      case c4 => omega
      case c5 => have := unhide HLt; simp; omega
      intro v' w2 hown3 hgrow _
      have hrel2 := rel_ref B w wr w2 u3 v' ds (y % 128 + 128) (unhide HB) (unhide HBe) (unhide HLt) (unhide HO) hown3 hgrow
      have HR2 := hide hrel2
      clear hown3 hgrow hrel2 HO
      go_wp2
      go_roundw
      case rel => exact ⟨y / 128, ds ++ [y % 128 + 128], by simp, by omega, by omega, by rw [← unhide HS, Leb.bU_step y hlt hy1]; simp, (unhide HR2).1, (unhide HR2).2.1, (unhide HR2).2.2⟩
      case measure => have := szU_down y hlt hy1; simp [intOf]; omega
    · have hlast := Leb.bU_last y hlt
      have hyL : ds ++ [y] = L := by rw [← hlast]; exact unhide HS
      have hn1 : ds.length + 1 = L.length := by rw [← hyL]; simp
      have HN := hide hn1; have HYL := hide hyL
      clear hn1 hyL hlast
      go_wp2_with (at_builtin; refine wpList_append_own _ rfl (.tmp 15) (.tmp 18) 22 rfl B 5 i0 (.int .u8 0) 1 1 Tryd.underlying22 hi hz0 hz1 hz2 rfl (by decide) u3 ds.length (ds.map (Value.int .u8)) rfl ((unhide HO).alloc _) ⟨wr.heap.size, 0, none⟩ 1 1 [.int .u8 y] rfl rfl ?d1 ?d2 ?d3 ?d4 ?d5 ?_)
      case d2 => first | rfl | (intro u hu; simp at hu; subst hu; rfl)
      case d3 => unfold maxLen; omega
      case d4 => omega
      case d5 => have := unhide HLt; simp; omega
      intro v' w2 hown3 hgrow _
      have hrel2 := rel_ref B w wr w2 u3 v' ds y (unhide HB) (unhide HBe) (unhide HLt) (unhide HO) hown3 hgrow
      rw [unhide HYL] at hrel2
      obtain ⟨g, cap, hv', hrow, hcap, hg⟩ := own_shape hrel2.1 (by omega) (unhide HY)
      have HR2 := hide hrel2.2.1; have HRow := hide hrow; have HC := hide hcap; have HG := hide hg
      clear hown3 hgrow hrel2 HO hrow hcap hg
      rw [hv']
      clear hv'
      go_wp2
      go_ret
      exact ⟨g, cap, rfl, unhide HRow, unhide HC, unhide HG, unhide HR2⟩
end Go.Proofs.YtcmidegffpehoaaDoor
