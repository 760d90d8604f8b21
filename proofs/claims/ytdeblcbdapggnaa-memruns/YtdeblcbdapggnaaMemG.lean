/- Sum: a sum of all bytes. -/
import Derived.Test.YtdeblcbdapggnaaMemB
namespace Go.Proofs.Ytdeblcbdapggnaa
open Go.RowKit
set_option linter.unusedVariables false

/-- one byte more -/
def sumB (h : Int) (i : Nat) (z : Int) : Int :=
  if z = 0 then h else IntKind.u64.wrap (bits .xor .u64 (IntKind.u64.wrap (bits .xor .u64 h i * 1099511628211)) z * 1099511628211)
def sumZ (zs : List Int) : Nat → Int
  | 0 => 14695981039346656037
  | k + 1 => sumB (sumZ zs k) k (zs[k]?.getD 0)
theorem sumZ_bd (zs : List Int) : ∀ k, 0 ≤ sumZ zs k ∧ sumZ zs k < 18446744073709551616
  | 0 => by simp [sumZ]
  | k + 1 => by
    have := sumZ_bd zs k
    rw [sumZ, sumB]
    split
    · exact this
    · rw [IntKind.wrap_u64]; omega

set_option maxHeartbeats 1000000 in
theorem sum_any {w : World} {b g n cap : Nat} {most : Int} {zs : List Int} (hm : MemAt w b g n cap most zs) :
    Calls Try.prog 16 #[.pointer (some ⟨b, 0, none⟩)] w fun e w' => e = .returned (.int .u64 (sumZ zs n)) ∧ w = w' := by
  have h0 := hm.c0
  have hs := hm.small
  have hr := hm.room
  have HM := hide hm
  clear hm
  go_enter Try.func16, Try.ntmps16
  go_wp2_with fail
  go_loop [3, 13] (fun h i => ∃ k : Nat, k ≤ n ∧ i = .int .i64 k ∧ h = .int .u64 (sumZ zs k)) (fun _ i => n - (intOf i).toNat)
  case atStart => exact ⟨0, Nat.zero_le _, rfl, rfl⟩
  case round =>
    obtain ⟨k, hk, rfl, rfl⟩ := hrel
    by_cases hlt : k < n
    · have hcell := (unhide HM).cell k hlt
      have hb := (unhide HM).byt_at k
      have hst : sumZ zs (k + 1) = sumB (sumZ zs k) k (zs[k]?.getD 0) := rfl
      have hbd := sumZ_bd zs k
      have HS := hide hst
      clear hst
      generalize zs[k]?.getD 0 = z at *
      generalize sumZ zs k = H at *
      by_cases hz : z = 0
      · subst hz
        go_wp2
        go_round
        case rel => exact ⟨k + 1, by omega, by go_num, by rw [unhide HS]; simp [sumB]⟩
        case measure => simp [intOf]; omega
      · have hz2 : (z != 0) = true := by simpa using hz
        go_wp2
        go_round
        case rel => exact ⟨k + 1, by omega, by go_num, by rw [unhide HS, sumB, if_neg hz]⟩
        case measure => simp [intOf]; omega
    · obtain rfl : k = n := by omega
      go_wp2
      go_ret
      exact ⟨rfl, rfl⟩
end Go.Proofs.Ytdeblcbdapggnaa
