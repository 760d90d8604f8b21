/- sure(): what must come whatever the input is. -/
import Derived.Test.YtdeblcbdapggnaaMemC
import Derived.Test.YtdeblcbdapggnaaMemD
import Derived.Test.YtdeblcbdapggnaaMemE
namespace Go.Proofs.Ytdeblcbdapggnaa
open Go.RowKit Mm
set_option linter.unusedVariables false

theorem su_ld : ldZ (stZ (List.replicate 4096 0) 4092 4 16909060) 4092 2 = 772 := by
  rw [ldZ_num 2 _ 4092 16909060 (fun i hi => by rw [stZ_get 4 _ _ _ _ (by rw [List.length_replicate]; omega), if_pos (by omega), show 4092 + i - 4092 = i from by omega])]
  decide

set_option maxHeartbeats 1000000 in
theorem sure_any (w : World) : Calls Try.prog 18 #[] w fun e w' => e = .returned (.bool true) ∧ Below w.heap.size w w' := by
  have hsu := hide su_ld
  go_enter Try.func18, Try.ntmps18
  go_wp2_with fail
  refine (new_yes 1 2 _ (by omega) (by omega) (by omega)).mono ?_
  rintro e w1 ⟨rfl, hm1, hb1⟩
  simp only [Int.toNat_one, Nat.one_mul] at hm1
  have HM := hide hm1; have HB := hide hb1; clear hm1 hb1
  go_wp2_with fail
  refine (store_yes (unhide HM) 4092 0 4 16909060 ⟨by omega, by omega⟩ ⟨by omega, by omega⟩ ⟨by omega, by omega⟩ (by decide)).mono ?_
  rintro e w2 ⟨rfl, hm2, ho2⟩
  have hb2 := (unhide HB).trans (ho2.below (unhide HB).size (by omega) (Nat.le_refl _))
  clear HM HB ho2
  have HM := hide hm2; have HB := hide hb2; clear hm2 hb2
  go_wp2_with fail
  refine (store_no (unhide HM) 4093 0 4 1 ⟨by omega, by omega⟩ ⟨by omega, by omega⟩ ⟨by omega, by omega⟩ (by decide)).mono ?_
  rintro e w3 ⟨rfl, rfl⟩
  go_wp2_with fail
  refine (load_yes (unhide HM) 4000 92 2 ⟨by omega, by omega⟩ ⟨by omega, by omega⟩ (by decide)).mono ?_
  rintro e w3 ⟨rfl, hb3⟩
  have hm3 := (unhide HM).below (Nat.le_refl _) hb3
  have hb3' := Below.on (unhide HB) hb3
  have hl : ldZ (stZ (List.replicate 4096 0) (4092 + 0 : Int).toNat (4 : Int).toNat 16909060) (4000 + 92 : Int).toNat (2 : Int).toNat = 772 := su_ld
  rw [hl]
  clear HM HB hb3 hl
  have HM := hide hm3; have HB := hide hb3'; clear hm3 hb3'
  go_wp2_with fail
  refine (pages_any (unhide HM)).mono ?_
  rintro e w4 ⟨rfl, rfl⟩
  go_wp2_with fail
  refine (grow_yes (p := 1) (unhide HM) 1 (by omega) (by omega) (by omega)).mono ?_
  rintro e w4 ⟨rfl, g', cap', hm4, ho4, hg4⟩
  have hb4 := (unhide HB).trans (ho4.below (unhide HB).size (by omega) (Nat.le_refl _))
  clear HM HB ho4 hg4
  have HM := hide hm4; have HB := hide hb4; clear hm4 hb4
  go_wp2_with fail
  refine (grow_no (p := 2) (unhide HM) 1 (by omega) (by omega) (by omega)).mono ?_
  rintro e w5 ⟨rfl, rfl⟩
  go_wp2_with fail
  go_ret
  exact ⟨rfl, unhide HB⟩
end Go.Proofs.Ytdeblcbdapggnaa
