/- The document's own PutU and PutS: the same bytes. -/
import Derived.Test.YtkdplpngmldopaaLaws0
namespace Go.Proofs.Ytkdplpngmldopaa
open Go.RowKit
set_option linter.unusedVariables false

theorem Leb.tmod_neg (y : Int) (h : y < 0) : y.tmod 128 = if y % 128 = 0 then 0 else y % 128 - 128 := by
  rw [Int.tmod_eq_emod]
  by_cases h0 : y % 128 = 0
  · have : (128 : Int) ∣ y := Int.dvd_of_emod_eq_zero h0
    simp [this, h0]
  · have : ¬ (128 : Int) ∣ y := fun hd => h0 (Int.emod_eq_zero_of_dvd hd)
    simp [h0, this, Int.not_le.2 h]
theorem Leb.tdiv_exact (y l : Int) (h : l = y % 128) : (y - l).tdiv 128 = y / 128 := by
  have : y - l = y / 128 * 128 := by omega
  rw [this, Int.mul_tdiv_cancel _ (by omega)]

/-- what one append does to the relation of the document's loops -/
theorem rel_ref (B : Nat) (w wr w2 : World) (s v' : Value) (ds : List Int) (c : Int) (hw : w.heap.size = B) (hbel : Below B w wr) (hB : B ≤ wr.heap.size) (hown : wr.ownsRow B 5 1 s ds.length (ds.map (Value.int .u8)))
    (hown3 : w2.ownsRow B 5 1 v' (ds.length + 1) (ds.map (Value.int .u8) ++ [.int .u8 c]))
    (hgrow : (wr.alloc (.cells #[.int .u8 c] 5)).grownBy w2 s.ownBlock) :
    w2.ownsRow B 5 1 v' (ds ++ [c]).length ((ds ++ [c]).map (Value.int .u8)) ∧ Below B w w2 ∧ B ≤ w2.heap.size := by
  have h1 : Below B w w2 := (hbel.alloc hB _).grown hgrow (by simp; omega) (fun k hk => (hown.lt k hk).1)
  exact ⟨by simpa using hown3, h1, by have := h1.size; omega⟩
theorem own_shape {w : World} {B n : Nat} {v : Value} {zs : List Int} (h : w.ownsRow B 5 1 v n (zs.map (Value.int .u8))) (hn : 1 ≤ n) (hz : ∀ z ∈ zs, 0 ≤ z ∧ z ≤ 255) :
    ∃ g cap, v = .slice (some ⟨g, 0, none⟩) n cap ∧ Row w (some ⟨g, 0, none⟩) n zs ∧ n ≤ cap ∧ B ≤ g := by
  rcases h.2 with ⟨_, h0⟩ | ⟨g, cap, cur, rfl, hg, _, hc, _⟩
  · omega
  · exact ⟨g, cap, rfl, Row.own h hz, hc, hg⟩

set_option maxHeartbeats 400000 in
theorem refU_any (v : Int) (w : World) (h0 : 0 ≤ v) (hv : v < 18446744073709551616) :
    Calls Try.prog 7 #[.int .u64 v] w fun e w' => ∃ g cap', e = .returned (.slice (some ⟨g, 0, none⟩) (Leb.bU 10 v).length cap') ∧
      Row w' (some ⟨g, 0, none⟩) (Leb.bU 10 v).length (Leb.bU 10 v) ∧ (Leb.bU 10 v).length ≤ cap' ∧ w.heap.size ≤ g ∧ Below w.heap.size w w' := by
  have hN := Leb.bU_len 10 v
  have hP := Leb.bU_pos 10 v
  have hby := Leb.bU_bytes 10 v h0 (by omega)
  obtain ⟨i0, hi, hz0, hz1, hz2⟩ := info_parts Try.info5
  generalize hL : Leb.bU 10 v = L at *
  generalize hB : w.heap.size = B at *
  have HB := hide hB; have HL := hide hL; have HY := hide hby; clear hB hL hby
  go_enter Try.func7, Try.ntmps7
  go_wp2_with fail
  go_loopw [0, 3] (fun x s wr => ∃ (y : Int) (ds : List Int), x = .int .u64 y ∧ 0 ≤ y ∧ y < 18446744073709551616 ∧ ds ++ Leb.bU 10 y = L ∧
      wr.ownsRow B 5 1 s ds.length (ds.map (Value.int .u8)) ∧ Below B w wr ∧ B ≤ wr.heap.size) (fun x _ _ => (Leb.bU 10 (intOf x)).length)
  case atStart => exact ⟨v, [], rfl, h0, hv, unhide HL, World.ownsRow_nil _ _ _ _, Below.refl _ _, by rw [unhide HB]; exact Nat.le_refl _⟩
  case round =>
    obtain ⟨y, ds, rfl, hy0, hy1, hsum, hown2, hbel2, hlt2⟩ := hrel
    have HO := hide hown2; have HS := hide hsum; have HBe := hide hbel2; have HLt := hide hlt2
    have hdl : ds.length + 1 ≤ 11 := by have h1 := Leb.bU_pos 10 y; have : L.length = ds.length + (Leb.bU 10 y).length := by rw [← hsum]; simp
                                        omega
    clear hown2 hsum hbel2 hlt2
    by_cases hlt : 127 < y
    · go_wp2_with (at_builtin; refine wpList_append_own _ rfl (.tmp 6) (.tmp 11) 22 rfl B 5 i0 (.int .u8 0) 1 1 Try.underlying22 hi hz0 hz1 hz2 rfl (by decide) u3 ds.length (ds.map (Value.int .u8)) rfl ((unhide HO).alloc _) ⟨wr.heap.size, 0, none⟩ 1 1 [.int .u8 (y % 128 + 128)] rfl rfl ?c1 ?c2 ?c3 ?c4 ?c5 ?_)
      case c1 => exact cell_one_new _ _ _
      case c2 => intro u hu; simp at hu; subst hu; rfl
      case c3 => unfold maxLen; omega
      case c4 => omega
      case c5 => have := unhide HLt; simp; omega
      intro v' w2 hown3 hgrow _
      have hrel2 := rel_ref B w wr w2 u3 v' ds (y % 128 + 128) (unhide HB) (unhide HBe) (unhide HLt) (unhide HO) hown3 hgrow
      have HR2 := hide hrel2
      clear hown3 hgrow hrel2 HO
      go_wp2
      go_roundw
      case rel => exact ⟨y / 128, ds ++ [y % 128 + 128], by simp, by omega, by omega, by rw [← unhide HS, Leb.bU_step y hlt hy1]; simp, (unhide HR2).1, (unhide HR2).2.1, (unhide HR2).2.2⟩
      case measure => have := szU_down y hlt hy1; simp [intOf]; omega
    · have hlast := Leb.bU_last y hlt
      have hyL : ds ++ [y] = L := by rw [← hlast]; exact unhide HS
      have hn1 : ds.length + 1 = L.length := by rw [← hyL]; simp
      have HN := hide hn1; have HYL := hide hyL
      clear hn1 hyL hlast
      go_wp2_with (at_builtin; refine wpList_append_own _ rfl (.tmp 15) (.tmp 18) 22 rfl B 5 i0 (.int .u8 0) 1 1 Try.underlying22 hi hz0 hz1 hz2 rfl (by decide) u3 ds.length (ds.map (Value.int .u8)) rfl ((unhide HO).alloc _) ⟨wr.heap.size, 0, none⟩ 1 1 [.int .u8 y] rfl rfl ?d1 ?d2 ?d3 ?d4 ?d5 ?_)
      case d2 => first | rfl | (intro u hu; simp at hu; subst hu; rfl)
      case d3 => unfold maxLen; omega
      case d4 => omega
      case d5 => have := unhide HLt; simp; omega
      intro v' w2 hown3 hgrow _
      have hrel2 := rel_ref B w wr w2 u3 v' ds y (unhide HB) (unhide HBe) (unhide HLt) (unhide HO) hown3 hgrow
      rw [unhide HYL] at hrel2
      obtain ⟨g, cap, hv', hrow, hcap, hg⟩ := own_shape hrel2.1 (by omega) (unhide HY)
      have HR2 := hide hrel2.2.1; have HRow := hide hrow; have HC := hide hcap; have HG := hide hg
      clear hown3 hgrow hrel2 HO hrow hcap hg
      rw [hv']
      clear hv'
      go_wp2
      go_ret
      exact ⟨g, cap, rfl, unhide HRow, unhide HC, unhide HG, unhide HR2⟩
set_option maxHeartbeats 400000 in
theorem refS_any (v : Int) (w : World) (h0 : -9223372036854775808 ≤ v) (hv : v < 9223372036854775808) :
    Calls Try.prog 8 #[.int .i64 v] w fun e w' => ∃ g cap', e = .returned (.slice (some ⟨g, 0, none⟩) (Leb.bS 10 v).length cap') ∧
      Row w' (some ⟨g, 0, none⟩) (Leb.bS 10 v).length (Leb.bS 10 v) ∧ (Leb.bS 10 v).length ≤ cap' ∧ w.heap.size ≤ g ∧ Below w.heap.size w w' := by
  have hN := Leb.bS_len 10 v
  have hP := Leb.bS_pos 10 v
  have hby := Leb.bS_bytes 10 v
  obtain ⟨i0, hi, hz0, hz1, hz2⟩ := info_parts Try.info5
  generalize hL : Leb.bS 10 v = L at *
  generalize hB : w.heap.size = B at *
  have HB := hide hB; have HL := hide hL; have HY := hide hby; clear hB hL hby
  go_enter Try.func8, Try.ntmps8
  go_wp2_with fail
  go_loopw [0, 3] (fun x s wr => ∃ (y : Int) (ds : List Int), x = .int .i64 y ∧ -9223372036854775808 ≤ y ∧ y < 9223372036854775808 ∧ ds ++ Leb.bS 10 y = L ∧
      wr.ownsRow B 5 1 s ds.length (ds.map (Value.int .u8)) ∧ Below B w wr ∧ B ≤ wr.heap.size) (fun x _ _ => (Leb.bS 10 (intOf x)).length)
  case atStart => exact ⟨v, [], rfl, h0, hv, unhide HL, World.ownsRow_nil _ _ _ _, Below.refl _ _, by rw [unhide HB]; exact Nat.le_refl _⟩
  case round =>
    obtain ⟨y, ds, rfl, hy0, hy1, hsum, hown2, hbel2, hlt2⟩ := hrel
    have HO := hide hown2; have HS := hide hsum; have HBe := hide hbel2; have HLt := hide hlt2
    have hdl : ds.length + 1 ≤ 11 := by have h1 := Leb.bS_pos 10 y; have : L.length = ds.length + (Leb.bS 10 y).length := by rw [← hsum]; simp
                                        omega
    clear hown2 hsum hbel2 hlt2
    rcases (show (y < -64 ∧ ¬ y % 128 = 0) ∨ (y < -64 ∧ y % 128 = 0) ∨ 63 < y ∨ (0 ≤ y ∧ y ≤ 63) ∨ (-64 ≤ y ∧ y < 0) from by omega) with hlt | hlt | hlt | hlt | hlt
    · obtain ⟨t, ht⟩ : ∃ t : Int, t = y % 128 - 128 := ⟨_, rfl⟩
      have htm : y.tmod 128 = t := by rw [Leb.tmod_neg y (by omega), if_neg hlt.2, ht]
      have hdv : wrap64 ((wrap64 (y - (t + 128))).tdiv 128) = y / 128 := by
        have e1 : wrap64 (y - (t + 128)) = y - (t + 128) := by unfold wrap64; omega
        rw [e1, Leb.tdiv_exact y (t + 128) (by omega)]; unfold wrap64; omega
      have HDV := hide hdv; clear hdv
      have ht0 : -128 < t := by omega
      have ht1 : t < 0 := by omega
      have HT := hide ht; have HLT := hide hlt.2; have hlt2 := hlt.1
      clear ht hlt
      go_wp2_with (at_builtin; refine wpList_append_own _ rfl (.tmp 17) (.tmp 21) 22 rfl B 5 i0 (.int .u8 0) 1 1 Try.underlying22 hi hz0 hz1 hz2 rfl (by decide) u3 ds.length (ds.map (Value.int .u8)) rfl ((unhide HO).alloc _) ⟨wr.heap.size, 0, none⟩ 1 1 [.int .u8 (t + 128 + 128)] rfl rfl ?c1 ?c2 ?c3 ?c4 ?c5 ?_)
      case c1 => exact cell_one_new _ _ _
      case c2 => first | rfl | (intro u hu; simp at hu; subst hu; rfl)
      case c3 => unfold maxLen; omega
      case c4 => omega
      case c5 => have := unhide HLt; simp; omega
      intro v' w2 hown3 hgrow _
      have hrel2 := rel_ref B w wr w2 u3 v' ds (t + 128 + 128) (unhide HB) (unhide HBe) (unhide HLt) (unhide HO) hown3 hgrow
      rw [show t + 128 + 128 = y % 128 + 128 from by have := unhide HT; omega] at hrel2
      have HR2 := hide hrel2
      clear hown3 hgrow hrel2 HO
      go_wp2
      go_roundw
      case rel => exact ⟨y / 128, ds ++ [y % 128 + 128], by simp; exact unhide HDV, by omega, by omega, by rw [← unhide HS, Leb.bS_step y (by omega) hy0 hy1]; simp, (unhide HR2).1, (unhide HR2).2.1, (unhide HR2).2.2⟩
      case measure => have := szS_down y (by omega) hy0 hy1; simp only [intOf]; rw [unhide HDV]; omega
    · have htm : y.tmod 128 = 0 := by rw [Leb.tmod_neg y (by omega), if_pos hlt.2]
      have hdv : y.tdiv 128 = y / 128 := by have := Leb.tdiv_exact y 0 (by omega); simpa using this
      have HDV : True := trivial
      have HLT := hide hlt.2; have hlt2 := hlt.1
      clear hlt
      go_wp2_with (at_builtin; refine wpList_append_own _ rfl (.tmp 17) (.tmp 21) 22 rfl B 5 i0 (.int .u8 0) 1 1 Try.underlying22 hi hz0 hz1 hz2 rfl (by decide) u3 ds.length (ds.map (Value.int .u8)) rfl ((unhide HO).alloc _) ⟨wr.heap.size, 0, none⟩ 1 1 [.int .u8 (128)] rfl rfl ?c1 ?c2 ?c3 ?c4 ?c5 ?_)
      case c1 => exact cell_one_new _ _ _
      case c2 => first | rfl | (intro u hu; simp at hu; subst hu; rfl)
      case c3 => unfold maxLen; omega
      case c4 => omega
      case c5 => have := unhide HLt; simp; omega
      intro v' w2 hown3 hgrow _
      have hrel2 := rel_ref B w wr w2 u3 v' ds (128) (unhide HB) (unhide HBe) (unhide HLt) (unhide HO) hown3 hgrow
      rw [show 128 = y % 128 + 128 from by have := unhide HLT; omega] at hrel2
      have HR2 := hide hrel2
      clear hown3 hgrow hrel2 HO
      go_wp2
      go_roundw
      case rel => exact ⟨y / 128, ds ++ [y % 128 + 128], by simp, by omega, by omega, by rw [← unhide HS, Leb.bS_step y (by omega) hy0 hy1]; simp, (unhide HR2).1, (unhide HR2).2.1, (unhide HR2).2.2⟩
      case measure => have := szS_down y (by omega) hy0 hy1; simp [intOf]; omega
    · have HDV := hide (show (y - y % 128) / 128 = y / 128 by omega)
      go_wp2_with (at_builtin; refine wpList_append_own _ rfl (.tmp 17) (.tmp 21) 22 rfl B 5 i0 (.int .u8 0) 1 1 Try.underlying22 hi hz0 hz1 hz2 rfl (by decide) u3 ds.length (ds.map (Value.int .u8)) rfl ((unhide HO).alloc _) ⟨wr.heap.size, 0, none⟩ 1 1 [.int .u8 (y % 128 + 128)] rfl rfl ?c1 ?c2 ?c3 ?c4 ?c5 ?_)
      case c1 => exact cell_one_new _ _ _
      case c2 => first | rfl | (intro u hu; simp at hu; subst hu; rfl)
      case c3 => unfold maxLen; omega
      case c4 => omega
      case c5 => have := unhide HLt; simp; omega
      intro v' w2 hown3 hgrow _
      have hrel2 := rel_ref B w wr w2 u3 v' ds (y % 128 + 128) (unhide HB) (unhide HBe) (unhide HLt) (unhide HO) hown3 hgrow
      rw [show y % 128 + 128 = y % 128 + 128 from by rfl] at hrel2
      have HR2 := hide hrel2
      clear hown3 hgrow hrel2 HO
      go_wp2
      go_roundw
      case rel => exact ⟨y / 128, ds ++ [y % 128 + 128], by simp; exact unhide HDV, by omega, by omega, by rw [← unhide HS, Leb.bS_step y (by omega) hy0 hy1]; simp, (unhide HR2).1, (unhide HR2).2.1, (unhide HR2).2.2⟩
      case measure => have := szS_down y (by omega) hy0 hy1; simp only [intOf]; rw [unhide HDV]; omega
    · have hx : True := trivial
      have hlast := Leb.bS_last y (by omega)
      have hyL : ds ++ [y % 128] = L := by rw [← hlast]; exact unhide HS
      have hn1 : ds.length + 1 = L.length := by rw [← hyL]; simp
      have HN := hide hn1; have HYL := hide hyL
      clear hn1 hyL hlast
      go_wp2_with (at_builtin; refine wpList_append_own _ rfl (.tmp 31) (.tmp 34) 22 rfl B 5 i0 (.int .u8 0) 1 1 Try.underlying22 hi hz0 hz1 hz2 rfl (by decide) u3 ds.length (ds.map (Value.int .u8)) rfl ((unhide HO).alloc _) ⟨wr.heap.size, 0, none⟩ 1 1 [.int .u8 (y)] rfl rfl ?d1 ?d2 ?d3 ?d4 ?d5 ?_)
      case d1 => exact cell_one_new _ _ _
      case d2 => first | rfl | (intro u hu; simp at hu; subst hu; rfl)
      case d3 => unfold maxLen; omega
      case d4 => omega
      case d5 => have := unhide HLt; simp; omega
      intro v' w2 hown3 hgrow _
      have hrel2 := rel_ref B w wr w2 u3 v' ds (y) (unhide HB) (unhide HBe) (unhide HLt) (unhide HO) hown3 hgrow
      rw [show y = y % 128 from by omega, unhide HYL] at hrel2
      obtain ⟨g, cap, hv', hrow, hcap, hg⟩ := own_shape hrel2.1 (by omega) (unhide HY)
      have HR2 := hide hrel2.2.1; have HRow := hide hrow; have HC := hide hcap; have HG := hide hg
      clear hown3 hgrow hrel2 HO hrow hcap hg
      rw [hv']
      clear hv'
      go_wp2
      go_ret
      exact ⟨g, cap, rfl, unhide HRow, unhide HC, unhide HG, unhide HR2⟩
    · have hx : True := trivial
      have hlast := Leb.bS_last y (by omega)
      have hyL : ds ++ [y % 128] = L := by rw [← hlast]; exact unhide HS
      have hn1 : ds.length + 1 = L.length := by rw [← hyL]; simp
      have HN := hide hn1; have HYL := hide hyL
      clear hn1 hyL hlast
      go_wp2_with (at_builtin; refine wpList_append_own _ rfl (.tmp 31) (.tmp 34) 22 rfl B 5 i0 (.int .u8 0) 1 1 Try.underlying22 hi hz0 hz1 hz2 rfl (by decide) u3 ds.length (ds.map (Value.int .u8)) rfl ((unhide HO).alloc _) ⟨wr.heap.size, 0, none⟩ 1 1 [.int .u8 (y + 128)] rfl rfl ?d1 ?d2 ?d3 ?d4 ?d5 ?_)
      case d1 => exact cell_one_new _ _ _
      case d2 => first | rfl | (intro u hu; simp at hu; subst hu; rfl)
      case d3 => unfold maxLen; omega
      case d4 => omega
      case d5 => have := unhide HLt; simp; omega
      intro v' w2 hown3 hgrow _
      have hrel2 := rel_ref B w wr w2 u3 v' ds (y + 128) (unhide HB) (unhide HBe) (unhide HLt) (unhide HO) hown3 hgrow
      rw [show y + 128 = y % 128 from by omega, unhide HYL] at hrel2
      obtain ⟨g, cap, hv', hrow, hcap, hg⟩ := own_shape hrel2.1 (by omega) (unhide HY)
      have HR2 := hide hrel2.2.1; have HRow := hide hrow; have HC := hide hcap; have HG := hide hg
      clear hown3 hgrow hrel2 HO hrow hcap hg
      rw [hv']
      clear hv'
      go_wp2
      go_ret
      exact ⟨g, cap, rfl, unhide HRow, unhide HC, unhide HG, unhide HR2⟩
end Go.Proofs.Ytkdplpngmldopaa
