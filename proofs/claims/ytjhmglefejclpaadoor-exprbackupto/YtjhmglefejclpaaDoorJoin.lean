/- joinGroups: the groups as one number. -/
import Derived.Test.YtjhmglefejclpaaDoorReads
namespace Go.Proofs.YtjhmglefejclpaaDoor
open Go.RowKit

theorem jn_mod (zs : List Int) (h : zs.length ≤ 9) : 0 ≤ Leb.jn zs ∧ Leb.jn zs < 128 ^ zs.length ∧ Leb.jn zs % 18446744073709551616 = Leb.jn zs := by
  have h1 := Leb.jn_bd zs
  have h2 := Leb.p128_le zs.length h
  exact ⟨h1.1, h1.2, by omega⟩

/-- one round, as the walk spells it -/
theorem join_round (zs : List Int) (k : Nat) (hk : k < zs.length) (h9 : k ≤ 9) (z : Int) (hz : zs.getD k 0 = z) :
    bits .or .u64 (Leb.jn (zs.take k) % 18446744073709551616) (z % 128 * 128 ^ k % 18446744073709551616) = Leb.jn (zs.take (k + 1)) % 18446744073709551616 := by
  have hl : (zs.take k).length = k := by simp; omega
  obtain ⟨g0, g1, g2⟩ := jn_mod (zs.take k) (by omega)
  rw [hl] at g1
  rw [g2, Leb.join_step _ z k h9 g0 g1, Leb.take_snoc zs k hk, Leb.jn_snoc, hl, hz]

set_option maxHeartbeats 400000 in
theorem join_any (a : Option Addr) (len cap : Nat) (zs : List Int) (w : World) (hrow : Row w a len zs) (h10 : len ≤ 10) :
    Calls Tryd.prog 92 #[.slice a len cap] w fun e w' => e = .returned (.int .u64 (Leb.jn zs % 18446744073709551616)) ∧ w = w' := by
  have HR := hide hrow; clear hrow
  go_enter Tryd.func92, Tryd.ntmps92
  go_wp2_with fail
  go_loop [3, 8] (fun v c => ∃ (k : Nat), c = .int .i64 k ∧ k ≤ len ∧ v = .int .u64 (Leb.jn (zs.take k) % 18446744073709551616)) (fun _ c => len - (intOf c).toNat)
  case atStart => exact ⟨0, rfl, by omega, rfl⟩
  case round =>
    obtain ⟨k, rfl, hkl, rfl⟩ := hrel
    have hzl := (unhide HR).1
    by_cases hlt : k < len
    · obtain ⟨b, off, rfl, hb, hc⟩ := (unhide HR).2.2 (by omega)
      have hck := hc k hlt
      have hby := (unhide HR).2.1 (zs.getD k 0) (by rw [List.getD, List.getElem?_eq_getElem (by omega)]; simp)
      generalize hz : zs.getD k 0 = z at *
      have hnext := join_round zs k (by omega) (by omega) z hz
      have hand := Leb.u8_and127 z hby.1 (by omega)
      generalize Leb.jn (zs.take k) % 18446744073709551616 = V at *
      have HN := hide hnext; have HZ := hide hzl; have HZd := hide hz
      clear hc hnext hzl hz
      go_wp2
      go_round
      case rel => exact ⟨k + 1, by go_num, by omega, by rw [← unhide HN, IntKind.wrap_u64, Leb.pow7]⟩
      case measure => simp [intOf]; omega
    · have e : k = len := by omega
      have ht : zs.take k = zs := List.take_of_length_le (by omega)
      have HT := hide ht
      clear ht e hzl
      go_wp2
      go_ret
      exact ⟨ret_int (by rw [unhide HT]), rfl⟩
end Go.Proofs.YtjhmglefejclpaaDoor
