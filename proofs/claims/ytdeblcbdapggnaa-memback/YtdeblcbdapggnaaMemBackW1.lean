/- MemBack: the walk, at one size of the number. -/
import Derived.Test.YtdeblcbdapggnaaMemS
import Derived.Test.YtdeblcbdapggnaaMemF
import Derived.Test.YtdeblcbdapggnaaMemBackM
import Derived.Deep.QuietTactic
import Derived.BigQuiet
namespace Go.Proofs.Ytdeblcbdapggnaa
open Go.RowKit Mm
set_option linter.unusedVariables false

theorem back_want1 (A : Nat) (v x : Int) (hA : A < 8000) (v0 : 0 ≤ v) (v1 : v < 18446744073709551616) : ldZ (bk A 1 v x) (A + 50) 1 = v % 256 := by
  rw [bk_mid A 1 v x hA (by omega)]
  have : (256 : Int) ^ 1 = 256 := by decide
  rw [this]
theorem back_byte1 (A k : Nat) (v x : Int) (hA : A < 8000) (v0 : 0 ≤ v) (v1 : v < 18446744073709551616) (hk : k < 1) : bits .and .u64 ((v % 256) / 2 ^ (8 * k)) 255 = ldZ (bk A 1 v x) (A + 50 + k) 1 := by
  rw [bk_one A 1 k v x hA (by omega) hk, ← mod_div v k 1 hk, pow2_256]
  have : (256 : Int) ^ 1 = 256 := by decide
  have hp : (0 : Int) < 256 ^ k := Int.pow_pos (by omega)
  rw [this]
  have hn : 0 ≤ v % 256 := by omega
  exact and_mask _ 8 (by omega) 255 256 (by decide) (by decide) (Int.ediv_nonneg hn (by omega)) (Int.lt_of_le_of_lt (Int.ediv_le_self _ hn) (by omega))

set_option maxRecDepth 100000 in
set_option maxHeartbeats 4000000 in
theorem back_1 (t s v x : Int) (w : World) (ht : U64 t) (hv : U64 v) (hx : U64 x) (hj : (IntKind.u64.wrap s).tmod 4 = 0) :
    Calls Try.prog 4 #[.int .u64 t, .int .i64 s, .agg #[.int .u64 v, .int .u64 x]] w fun e w' => e = .returned (.bool true) ∧ Below w.heap.size w w' := by
  obtain ⟨t0, t1⟩ := ht
  obtain ⟨v0, v1⟩ := hv
  obtain ⟨x0, x1⟩ := hx
  obtain ⟨A, hA⟩ := Int.eq_ofNat_of_zero_le (show 0 ≤ t % 8000 by omega)
  have hA8 : A < 8000 := by omega
  have HA := hide hA; clear hA
  have hw1 := back_want1 A v x hA8 v0 v1
  have hw2 := fun k hk => back_byte1 A k v x hA8 v0 v1 hk
  have hlo := bk_lo A 1 v x hA8 (by omega) x0 x1
  have hhi := bk_hi A 1 v x hA8 (by omega) x0 x1
  have hnew := bk_new A 1 v x
  have HW1 := hide hw1; have HW2 := hide hw2; have HLO := hide hlo; have HHI := hide hhi; have HNEW := hide hnew
  clear hw1 hw2 hlo hhi hnew
  have hand : bits .and .u64 v 255 = v % 256 := and_mask v 8 (by omega) 255 256 (by decide) (by decide) v0 v1
  go_enter Try.func4, Try.ntmps4
  go_wp2_with fail
  go_quiet (fail)
  have hbq : Below w.heap.size w ((w.alloc (Obj.cells #[Value.int IntKind.u64 v, Value.int IntKind.u64 x] 54)).drewN nq) := below_drewN ((Below.refl _ _).alloc (Nat.le_refl _) _) _
  generalize hwq : (w.alloc (Obj.cells #[Value.int IntKind.u64 v, Value.int IntKind.u64 x] 54)).drewN nq = wq at *
  have HQ := hide hbq; clear hbq hwq
  go_wp2_with fail
  refine (new_yes 2 4 _ (by omega) (by omega) (by omega)).mono ?_
  rintro e w1 ⟨rfl, hm1, hb1⟩
  have hb1' := Below.on (unhide HQ) hb1
  have hsz : w.heap.size ≤ wq.heap.size := (unhide HQ).size
  generalize wq.heap.size = G at *
  simp only [show (2 : Int).toNat * 4096 = 8192 from rfl] at hm1
  have HM := hide hm1; have HB := hide hb1'; clear hm1 hb1 hb1' HQ hj
  go_wp2_with fail
  rw [unhide HA]
  refine (store_yes (unhide HM) A 0 8 x ⟨by omega, by omega⟩ ⟨by omega, by omega⟩ ⟨x0, x1⟩ (fits_iff.2 ⟨by omega, by omega⟩)).mono ?_
  rintro e w2 ⟨rfl, hm2, ho2⟩
  have hb2 := (unhide HB).trans (ho2.below (unhide HB).size (by omega) (by omega))
  rw [show ((A : Int) + 0).toNat = A from by omega, show (8 : Int).toNat = 8 from rfl] at hm2
  clear HM HB ho2
  have HM := hide hm2; have HB := hide hb2; clear hm2 hb2
  go_wp2_with fail
  refine (store_yes (unhide HM) A 100 8 x ⟨by omega, by omega⟩ ⟨by omega, by omega⟩ ⟨x0, x1⟩ (fits_iff.2 ⟨by omega, by omega⟩)).mono ?_
  rintro e w3 ⟨rfl, hm3, ho3⟩
  have hb3 := (unhide HB).trans (ho3.below (unhide HB).size (by omega) (by omega))
  rw [show ((A : Int) + 100).toNat = A + 100 from by omega, show (8 : Int).toNat = 8 from rfl] at hm3
  clear HM HB ho3
  have HM := hide hm3; have HB := hide hb3; clear hm3 hb3
  go_wp2_with fail
  refine (store_yes (unhide HM) A 50 1 v ⟨by omega, by omega⟩ ⟨by omega, by omega⟩ ⟨v0, v1⟩ (fits_iff.2 ⟨by omega, by omega⟩)).mono ?_
  rintro e w4 ⟨rfl, hm4, ho4⟩
  have hb4 := (unhide HB).trans (ho4.below (unhide HB).size (by omega) (by omega))
  rw [show ((A : Int) + 50).toNat = A + 50 from by omega, show (1 : Int).toNat = 1 from rfl] at hm4
  clear HM HB ho4
  have HM := hide hm4; have HB := hide hb4; clear hm4 hb4
  go_wp2_with fail
  refine (grow_yes (p := 2) (unhide HM) 2 (by omega) (by omega) (by omega)).mono ?_
  rintro e w5 ⟨rfl, g, cap, hm5, ho5, hg5⟩
  have hb5 := (unhide HB).trans (ho5.below (unhide HB).size (by omega) (by omega))
  have hGg : w.heap.size ≤ g := by have := (unhide HB).size; omega
  clear HM HB ho5 hg5
  rw [show (2 : Int).toNat = 2 from rfl, show (2 + 2) * 4096 = 16384 from rfl, show 2 * 4096 = 8192 from rfl, ← bk_def] at hm5
  have hm6 := hm5
  have HM := hide hm6; have HB := hide hb5; clear hm5 hm6 hb5
  go_wp2_with fail
  refine (load_yes (unhide HM) A 0 8 ⟨by omega, by omega⟩ ⟨by omega, by omega⟩ (fits_iff.2 ⟨by omega, by omega⟩)).mono ?_
  rintro e w6 ⟨rfl, hb6⟩
  rw [show ((A : Int) + 0).toNat = A from by omega, show (8 : Int).toNat = 8 from rfl, unhide HLO]
  have hm6 := (unhide HM).below (Nat.le_refl _) hb6
  have hb6' := Below.on (unhide HB) hb6
  clear HM HB hb6
  have HM := hide hm6; have HB := hide hb6'; clear hm6 hb6'
  go_wp2_with fail
  refine (load_yes (unhide HM) A 100 8 ⟨by omega, by omega⟩ ⟨by omega, by omega⟩ (fits_iff.2 ⟨by omega, by omega⟩)).mono ?_
  rintro e w7 ⟨rfl, hb7⟩
  rw [show ((A : Int) + 100).toNat = A + 100 from by omega, show (8 : Int).toNat = 8 from rfl, unhide HHI]
  have hm7 := (unhide HM).below (Nat.le_refl _) hb7
  have hb7' := Below.on (unhide HB) hb7
  clear HM HB hb7
  have HM := hide hm7; have HB := hide hb7'; clear hm7 hb7'
  go_wp2_with fail
  refine (load_yes (unhide HM) (A + 50) 0 1 ⟨by omega, by omega⟩ ⟨by omega, by omega⟩ (fits_iff.2 ⟨by omega, by omega⟩)).mono ?_
  rintro e w8 ⟨rfl, hb8⟩
  rw [show ((A : Int) + 50 + 0).toNat = A + 50 from by omega, show (1 : Int).toNat = 1 from rfl, unhide HW1]
  have hm8 := (unhide HM).below (Nat.le_refl _) hb8
  have hb8' := Below.on (unhide HB) hb8
  clear HM HB hb8
  have HM := hide hm8; have HB := hide hb8'; clear hm8 hb8'
  go_wp2_with fail
  go_loopw [20] (fun i wr => ∃ k : Nat, k ≤ 1 ∧ i = .int .i64 k ∧ MemAt wr (G + 1) g 16384 cap 4 (bk A 1 v x) ∧ Below w.heap.size w wr) (fun i _ => (1 - intOf i).toNat)
  case atStart => exact ⟨0, by omega, rfl, unhide HM, unhide HB⟩
  case round =>
    obtain ⟨k, hk, rfl, hmr, hbr⟩ := hrel
    clear HM HB
    by_cases hlt : k < 1
    · have hby := unhide HW2 k hlt
      have hld := load_yes hmr A (50 + k) 1 ⟨by omega, by omega⟩ ⟨by omega, by omega⟩ (fits_iff.2 ⟨by omega, by omega⟩)
      rw [show ((A : Int) + (50 + (k : Int))).toNat = A + 50 + k from by omega, show (1 : Int).toNat = 1 from rfl, ← hby] at hld
      have HM := hide hmr; have HB := hide hbr; have HL := hide hld
      have k1 : (k : Int) < 1 := by omega
      clear hmr hbr hby hld hk hlt hsz hGg x0 x1 t0 t1 hA8 HA HW1 HLO HHI HNEW
      go_wp2_with fail
      refine (unhide HL).mono ?_
      rintro e w9 ⟨rfl, hb9⟩
      have hm9 := (unhide HM).below (Nat.le_refl _) hb9
      have hb9' := Below.on (unhide HB) hb9
      clear HM HB hb9 HL
      have HM := hide hm9; have HB := hide hb9'; clear hm9 hb9'
      go_wp2_with fail
      go_roundw
      case rel => exact ⟨k + 1, by omega, by go_num, unhide HM, unhide HB⟩
      case measure => simp [intOf]; omega
    · obtain rfl : k = 1 := by omega
      have HM := hide hmr; have HB := hide hbr; clear hmr hbr
      go_wp2_with fail
      refine (load_yes (unhide HM) 12288 4095 1 ⟨by omega, by omega⟩ ⟨by omega, by omega⟩ (fits_iff.2 ⟨by omega, by omega⟩)).mono ?_
      rintro e w10 ⟨rfl, hb10⟩
      rw [show ((12288 : Int) + 4095).toNat = 16383 from rfl, show (1 : Int).toNat = 1 from rfl, unhide HNEW]
      have hm10 := (unhide HM).below (Nat.le_refl _) hb10
      have hb10' := Below.on (unhide HB) hb10
      clear HM HB hb10
      have HM := hide hm10; have HB := hide hb10'; clear hm10 hb10'
      go_wp2_with fail
      refine (load_no (unhide HM) 12288 4096 1 ⟨by omega, by omega⟩ ⟨by omega, by omega⟩ ⟨by omega, by omega⟩ (fits_no.2 (by omega))).mono ?_
      rintro e w11 ⟨rfl, rfl⟩
      go_wp2_with fail
      refine (sure_any _).mono ?_
      rintro e w12 ⟨rfl, hb12⟩
      have HB12 := hide (Below.on (unhide HB) hb12); clear hb12 HB
      go_wp2_with fail
      go_ret
      exact ⟨rfl, unhide HB12⟩

end Go.Proofs.Ytdeblcbdapggnaa
