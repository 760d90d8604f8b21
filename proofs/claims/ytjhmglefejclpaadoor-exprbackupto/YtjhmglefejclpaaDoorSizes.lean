/- What SizeU and SizeS of the program return: as many as the bytes of the number are; the world stands. -/
import Derived.Test.YtjhmglefejclpaaDoorBase
import Derived.Test.YtjhmglefejclpaaDoorMath
namespace Go.Proofs.YtjhmglefejclpaaDoor
open Go.RowKit

set_option maxHeartbeats 400000 in
theorem fits_any (v : Int) (w : World) :
    Calls Tryd.prog 87 #[.int .i64 v] w fun e w' => e = .returned (.bool (decide (-64 ≤ v ∧ v < 64))) ∧ w = w' := by
  by_cases h1 : -64 ≤ v
  · by_cases h2 : v < 64
    · go_enter Tryd.func87, Tryd.ntmps87
      go_wp2
      go_ret
      exact ⟨by simp [h1, h2], rfl⟩
    · go_enter Tryd.func87, Tryd.ntmps87
      go_wp2
      go_ret
      exact ⟨by simp [h2], rfl⟩
  · go_enter Tryd.func87, Tryd.ntmps87
    go_wp2
    go_ret
    have e : decide (-64 ≤ v) = false := decide_eq_false (by omega)
    exact ⟨by rw [e]; rfl, rfl⟩

theorem fits_yes (v : Int) (w : World) (h : -64 ≤ v ∧ v < 64) :
    Calls Tryd.prog 87 #[.int .i64 v] w fun e w' => e = .returned (.bool true) ∧ w = w' := by
  have := fits_any v w
  simpa [h] using this
theorem fits_no (v : Int) (w : World) (h : ¬ (-64 ≤ v ∧ v < 64)) :
    Calls Tryd.prog 87 #[.int .i64 v] w fun e w' => e = .returned (.bool false) ∧ w = w' := by
  have := fits_any v w
  rw [decide_eq_false h] at this
  exact this

theorem szU_down (v : Int) (h : 127 < v) (hv : v < 18446744073709551616) : (Leb.bU 10 v).length = (Leb.bU 10 (v / 128)).length + 1 := by
  rw [Leb.bU_step v h hv]; simp
theorem szS_down (v : Int) (h : ¬ (-64 ≤ v ∧ v < 64)) (h0 : -9223372036854775808 ≤ v) (hv : v < 9223372036854775808) : (Leb.bS 10 v).length = (Leb.bS 10 (v / 128)).length + 1 := by
  rw [Leb.bS_step v h h0 hv]; simp

set_option maxHeartbeats 400000 in
theorem sizeU_any (v : Int) (w : World) (h0 : 0 ≤ v) (hv : v < 18446744073709551616) :
    Calls Tryd.prog 88 #[.int .u64 v] w fun e w' => e = .returned (.int .i64 (Leb.bU 10 v).length) ∧ w = w' := by
  have hlen := Leb.bU_len 10 v
  go_enter Tryd.func88, Tryd.ntmps88
  go_wp2
  go_loop [0, 3] (fun x c => ∃ (y : Int) (k : Nat), x = .int .u64 y ∧ c = .int .i64 k ∧ 0 ≤ y ∧ y < 18446744073709551616 ∧ 1 ≤ k ∧ k + (Leb.bU 10 y).length = (Leb.bU 10 v).length + 1) (fun x _ => (Leb.bU 10 (intOf x)).length)
  case atStart => exact ⟨v, 1, rfl, rfl, h0, hv, by omega, by omega⟩
  case round =>
    obtain ⟨y, k, rfl, rfl, hy0, hy1, hk, hsum⟩ := hrel
    by_cases hlt : 127 < y
    · have hd := szU_down y hlt hy1
      have hk2 : k ≤ 11 := by have := Leb.bU_pos 10 y; omega
      have HS := hide hsum; have HD := hide hd; clear hsum hd
      go_wp2
      go_round
      case rel => exact ⟨y / 128, k + 1, by simp, by go_num, by omega, by omega, by omega, by have := unhide HS; have := unhide HD; omega⟩
      case measure => have := unhide HD; simp [intOf]; omega
    · have hl : (Leb.bU 10 y).length = 1 := by rw [Leb.bU_last y hlt]; rfl
      have hk2 : k = (Leb.bU 10 v).length := by omega
      have HS := hide hk2; clear hk2 hsum hl
      go_wp2
      go_ret
      exact ⟨ret_int (by rw [unhide HS]), rfl⟩

set_option maxHeartbeats 400000 in
theorem sizeS_any (v : Int) (w : World) (h0 : -9223372036854775808 ≤ v) (hv : v < 9223372036854775808) :
    Calls Tryd.prog 86 #[.int .i64 v] w fun e w' => e = .returned (.int .i64 (Leb.bS 10 v).length) ∧ w = w' := by
  have hlen := Leb.bS_len 10 v
  go_enter Tryd.func86, Tryd.ntmps86
  go_wp2
  go_loop [0, 3] (fun x c => ∃ (y : Int) (k : Nat), x = .int .i64 y ∧ c = .int .i64 k ∧ -9223372036854775808 ≤ y ∧ y < 9223372036854775808 ∧ 1 ≤ k ∧ k + (Leb.bS 10 y).length = (Leb.bS 10 v).length + 1) (fun x _ => (Leb.bS 10 (intOf x)).length)
  case atStart => exact ⟨v, 1, rfl, rfl, h0, hv, by omega, by omega⟩
  case round =>
    obtain ⟨y, k, rfl, rfl, hy0, hy1, hk, hsum⟩ := hrel
    by_cases hlt : -64 ≤ y ∧ y < 64
    · have hl : (Leb.bS 10 y).length = 1 := by rw [Leb.bS_last y hlt]; rfl
      have hk2 : k = (Leb.bS 10 v).length := by omega
      have HS := hide hk2; have HL := hide hlt; clear hk2 hsum hl hlt
      go_wp2_with (go_at_call 87; refine (fits_yes _ _ (unhide HL)).mono ?_; rintro e w' ⟨rfl, rfl⟩)
      go_ret
      exact ⟨ret_int (by rw [unhide HS]), rfl⟩
    · have hd := szS_down y hlt hy0 hy1
      have hk2 : k ≤ 11 := by have := Leb.bS_pos 10 y; omega
      have HS := hide hsum; have HD := hide hd; have HL := hide hlt; clear hsum hd hlt
      go_wp2_with (go_at_call 87; refine (fits_no _ _ (unhide HL)).mono ?_; rintro e w' ⟨rfl, rfl⟩)
      go_round
      case rel => exact ⟨y / 128, k + 1, by simp, by go_num, by omega, by omega, by omega, by have := unhide HS; have := unhide HD; omega⟩
      case measure => have := unhide HD; simp [intOf]; omega
end Go.Proofs.YtjhmglefejclpaaDoor
