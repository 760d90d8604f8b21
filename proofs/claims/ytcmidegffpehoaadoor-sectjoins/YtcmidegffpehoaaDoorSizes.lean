/- What SizeU and SizeS of the program return: as many as the bytes of the number are; the world stands. -/
import Derived.Test.YtcmidegffpehoaaDoorBase
import Derived.Test.YtcmidegffpehoaaDoorMath
namespace Go.Proofs.YtcmidegffpehoaaDoor
open Go.RowKit

theorem szU_down (v : Int) (h : 127 < v) (hv : v < 18446744073709551616) : (Leb.bU 10 v).length = (Leb.bU 10 (v / 128)).length + 1 := by
  rw [Leb.bU_step v h hv]; simp
theorem szS_down (v : Int) (h : ¬ (-64 ≤ v ∧ v < 64)) (h0 : -9223372036854775808 ≤ v) (hv : v < 9223372036854775808) : (Leb.bS 10 v).length = (Leb.bS 10 (v / 128)).length + 1 := by
  rw [Leb.bS_step v h h0 hv]; simp

set_option maxHeartbeats 400000 in
theorem sizeU_any (v : Int) (w : World) (h0 : 0 ≤ v) (hv : v < 18446744073709551616) :
    Calls Tryd.prog 37 #[.int .u64 v] w fun e w' => e = .returned (.int .i64 (Leb.bU 10 v).length) ∧ w = w' := by
  have hlen := Leb.bU_len 10 v
  go_enter Tryd.func37, Tryd.ntmps37
  go_wp2
  go_loop [0, 3] (fun x c => ∃ (y : Int) (k : Nat), x = .int .u64 y ∧ c = .int .i64 k ∧ 0 ≤ y ∧ y < 18446744073709551616 ∧ 1 ≤ k ∧ k + (Leb.bU 10 y).length = (Leb.bU 10 v).length + 1) (fun x _ => (Leb.bU 10 (intOf x)).length)
  case atStart => exact ⟨v, 1, rfl, rfl, h0, hv, by omega, by omega⟩
  case round =>
    obtain ⟨y, k, rfl, rfl, hy0, hy1, hk, hsum⟩ := hrel
    by_cases hlt : 127 < y
    · have hd := szU_down y hlt hy1
      have hk2 : k ≤ 11 := by have := Leb.bU_pos 10 y; omega
      have HS := hide hsum; have HD := hide hd; clear hsum hd
      go_wp2
      go_round
      case rel => exact ⟨y / 128, k + 1, by simp, by go_num, by omega, by omega, by omega, by have := unhide HS; have := unhide HD; omega⟩
      case measure => have := unhide HD; simp [intOf]; omega
    · have hl : (Leb.bU 10 y).length = 1 := by rw [Leb.bU_last y hlt]; rfl
      have hk2 : k = (Leb.bU 10 v).length := by omega
      have HS := hide hk2; clear hk2 hsum hl
      go_wp2
      go_ret
      exact ⟨ret_int (by rw [unhide HS]), rfl⟩

end Go.Proofs.YtcmidegffpehoaaDoor
