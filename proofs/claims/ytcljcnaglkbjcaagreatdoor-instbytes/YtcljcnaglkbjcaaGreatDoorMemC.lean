/- Store. -/
import Derived.Test.YtcljcnaglkbjcaaGreatDoorMemB
import Derived.Test.YtcljcnaglkbjcaaGreatDoorMemM
namespace Go.Proofs.YtcljcnaglkbjcaaGreatDoor
open Go.RowKit Mm
set_option linter.unusedVariables false

theorem MemAt.set {w : World} {b g n cap : Nat} {most : Int} {zs : List Int} (h : MemAt w b g n cap most zs) (i : Nat) (hi : i < n) (c : Int) (c0 : 0 ≤ c) (c1 : c ≤ 255) :
    MemAt (w.setCell ⟨g, i, none⟩ (.int .u8 c)) b g n cap most (zs.set i c) := by
  obtain ⟨cur, hc, hs, ht⟩ := h.row
  refine ⟨?_, ⟨cur.setIfInBounds i (.int .u8 c), heap_setCell_same w g i cur _ _ hc, by simpa using hs, ?_⟩, by simpa using h.len, ?_, h.room, h.capm, h.small⟩
  · rw [heap_setCell_other w _ b _ h.ne]; exact h.box
  · rw [Array.toList_setIfInBounds, List.take_set, ht, List.map_set]
  · intro z hz
    rcases List.mem_or_eq_of_mem_set hz with h1 | h1
    · exact h.byt z h1
    · omega
theorem Oth.set {b g : Nat} {w w1 : World} (h : Oth b g w w1) (i : Nat) (v : Value) : Oth b g w (w1.setCell ⟨g, i, none⟩ v) :=
  h.trans ⟨rfl, rfl, rfl, by simp [World.setCell], fun k hk h1 h2 => heap_setCell_other w1 _ k _ (by simpa using h2)⟩

set_option maxHeartbeats 1000000 in
theorem store_yes {w : World} {b g n cap : Nat} {most : Int} {zs : List Int} (hm : MemAt w b g n cap most zs) (a o s v : Int) (ha : U64 a) (ho : U64 o) (hv : U64 v) (hf : fits n a o s = true) :
    Calls Tryz.prog 32 #[.pointer (some ⟨b, 0, none⟩), .int .u64 a, .int .u64 o, .int .i64 s, .int .u64 v] w fun e w' =>
      e = .returned (.bool true) ∧ MemAt w' b g n cap most (stZ zs (a + o).toNat s.toNat v) ∧ Oth b g w w' := by
  obtain ⟨h1, h2⟩ := fits_iff.1 hf
  have hpl := place_yes hm a o s ha ho hf
  have a0 := ha.1; have o0 := ho.1
  obtain ⟨f, hfe⟩ := Int.eq_ofNat_of_zero_le (show 0 ≤ a + o by omega)
  obtain ⟨s', rfl⟩ := Int.eq_ofNat_of_zero_le (show 0 ≤ s by omega)
  rw [hfe] at hpl h2 ⊢
  simp only [Int.toNat_natCast] at hpl ⊢
  have hs8 : s' ≤ 8 := by omega
  have hfn : f + s' ≤ n := by omega
  obtain ⟨v0, v1⟩ := hv
  have HM := hide hm
  clear hm hf hfe h1 h2 a0 o0 ha ho
  go_enter Tryz.func32, Tryz.ntmps32
  go_wp2_with fail
  refine hpl.mono ?_
  rintro e w1 ⟨rfl, rfl⟩
  clear hpl
  go_wp2_with fail
  go_loopw [4, 26] (fun x i wr => ∃ (k : Nat) (y : Int) (ys : List Int), k ≤ s' ∧ i = .int .i64 k ∧ x = .int .u64 y ∧ U64 y ∧ MemAt wr b g n cap most ys ∧ Oth b g w wr ∧ stZ ys (f + k) (s' - k) y = stZ zs f s' v) (fun _ i _ => s' - (intOf i).toNat)
  case atStart => exact ⟨0, v, zs, by omega, rfl, rfl, ⟨v0, v1⟩, unhide HM, Oth.refl _ _ _, rfl⟩
  case round =>
    obtain ⟨k, y, ys, hk, rfl, rfl, ⟨y0, y1⟩, hmr, hot, hst⟩ := hrel
    by_cases hlt : k < s'
    · have hcell := hmr.cell (f + k) (by omega)
      have hfz := hmr.fg (f + k)
      have hnext := hmr.set (f + k) (by omega) (y % 256) (by omega) (by omega)
      have hot2 := hot.set (f + k) (.int .u8 (y % 256))
      have hst2 : stZ (ys.set (f + k) (y % 256)) (f + (k + 1)) (s' - (k + 1)) (y / 256) = stZ zs f s' v := by
        rw [← hst, show s' - k = (s' - (k + 1)) + 1 from by omega, stZ]; rfl
      have HN := hide hnext; have HO := hide hot2; have HS := hide hst2
      clear hnext hot2 hst2 hmr hot hst HM
      go_wp2
      go_roundw
      case rel => exact ⟨k + 1, y / 256, _, by omega, by go_num, by go_num, ⟨by omega, by omega⟩, unhide HN, unhide HO, unhide HS⟩
      case measure => simp [intOf]; omega
    · obtain rfl : k = s' := by omega
      have HR := hide hmr; have HO := hide hot; have HS := hide hst
      clear hmr hot hst HM
      go_wp2
      go_ret
      refine ⟨rfl, ?_, unhide HO⟩
      have := unhide HS
      rw [Nat.sub_self] at this
      rw [← this]
      exact unhide HR

set_option maxHeartbeats 1000000 in
theorem store_no {w : World} {b g n cap : Nat} {most : Int} {zs : List Int} (hm : MemAt w b g n cap most zs) (a o s v : Int) (ha : U64 a) (ho : U64 o) (hs64 : -9223372036854775808 ≤ s ∧ s < 9223372036854775808) (hf : fits n a o s = false) :
    Calls Tryz.prog 32 #[.pointer (some ⟨b, 0, none⟩), .int .u64 a, .int .u64 o, .int .i64 s, .int .u64 v] w fun e w' =>
      e = .returned (.bool false) ∧ w = w' := by
  have hpl := place_no hm a o s ha ho hs64 hf
  clear hm hf ha ho hs64
  go_enter Tryz.func32, Tryz.ntmps32
  go_wp2_with fail
  refine hpl.mono ?_
  rintro e w1 ⟨rfl, rfl⟩
  clear hpl
  go_wp2
  go_ret
  exact ⟨rfl, rfl⟩
end Go.Proofs.YtcljcnaglkbjcaaGreatDoor
