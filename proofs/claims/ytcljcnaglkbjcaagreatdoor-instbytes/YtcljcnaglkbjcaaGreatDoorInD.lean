/- inst.withSign, Load, Store: what they return. -/
import Derived.Test.YtcljcnaglkbjcaaGreatDoorInC
import Derived.Test.YtcljcnaglkbjcaaGreatDoorMemD
import Derived.Test.YtcljcnaglkbjcaaGreatDoorOpI
namespace Go.Proofs.YtcljcnaglkbjcaaGreatDoor
open Go.RowKit Go.Maps Go.Shelf Mm
set_option linter.unusedVariables false

/-- a number of so many bytes, with its sign, as a value of a kind -/
def wsV (s : Nat) (g v : Int) : Int := (if v < 2 ^ (8 * s - 1) then v else v - 2 ^ (8 * s)) % (if g = 127 then 4294967296 else 18446744073709551616)
theorem wrap64_at (x : Int) : wrap64 x = if x % 18446744073709551616 < 9223372036854775808 then x % 18446744073709551616 else x % 18446744073709551616 - 18446744073709551616 := by
  unfold wrap64; split <;> omega

theorem wsv_44 (v : Int) (h0 : 0 ≤ v) (h1 : v < 256) : IntKind.u64.wrap (wrap64 (v * 72057594037927936) / 72057594037927936) % 4294967296 = wsV 1 127 v := by
  unfold wsV
  rw [show (2 : Int) ^ (8 * 1 - 1) = 128 by decide, show (2 : Int) ^ (8 * 1) = 256 by decide, if_pos rfl, IntKind.wrap_u64, wrap64_at]
  by_cases hv : v < 128
  · rw [if_pos hv, if_pos (by omega)]; omega
  · rw [if_neg hv, if_neg (by omega)]; omega
set_option maxRecDepth 100000 in
set_option maxHeartbeats 1600000 in
theorem ws_44 (v : Int) (h0 : 0 ≤ v) (h1 : v < 256) (w : World) (hT : TC w 5 fmV) :
    Calls Tryz.prog 52 #[.int .u8 44, .int .u64 v, .int .i64 1] w fun e w' => e = .returned (.int .u64 (wsV 1 127 v)) ∧ Below w.heap.size w w' := by
  have hs := sign_yes 44 (by omega) w hT ⟨44, 47, 4, 127, 0, 127⟩ (by rfl) (by decide)
  simp only [errV_0] at hs
  have HS := hide hs; clear hs hT
  have HV := hide (wsv_44 v h0 h1)
  go_enter Tryz.func52, Tryz.ntmps52
  go_wp2_with fail
  refine (unhide HS).mono ?_
  rintro e w1 ⟨k, rfl, ho, hb1⟩
  obtain ⟨ad, cap, rfl⟩ := own_slice ho
  have HB1 := hide hb1; clear hb1 ho
  go_wp2_with fail
  have hbd : 0 ≤ IntKind.u64.wrap (wrap64 (v * 72057594037927936) / 72057594037927936) ∧ IntKind.u64.wrap (wrap64 (v * 72057594037927936) / 72057594037927936) < 18446744073709551616 := by rw [IntKind.wrap_u64]; omega
  refine (low32_any _ _ hbd.1 hbd.2).mono ?_
  rintro e w2 ⟨rfl, rfl⟩
  rw [unhide HV]
  clear hbd
  go_wp2
  go_ret
  exact ⟨rfl, (unhide HB1).alloc (unhide HB1).size _⟩

theorem wsv_46 (v : Int) (h0 : 0 ≤ v) (h1 : v < 65536) : IntKind.u64.wrap (wrap64 (v * 281474976710656) / 281474976710656) % 4294967296 = wsV 2 127 v := by
  unfold wsV
  rw [show (2 : Int) ^ (8 * 2 - 1) = 32768 by decide, show (2 : Int) ^ (8 * 2) = 65536 by decide, if_pos rfl, IntKind.wrap_u64, wrap64_at]
  by_cases hv : v < 32768
  · rw [if_pos hv, if_pos (by omega)]; omega
  · rw [if_neg hv, if_neg (by omega)]; omega
set_option maxRecDepth 100000 in
set_option maxHeartbeats 1600000 in
theorem ws_46 (v : Int) (h0 : 0 ≤ v) (h1 : v < 65536) (w : World) (hT : TC w 5 fmV) :
    Calls Tryz.prog 52 #[.int .u8 46, .int .u64 v, .int .i64 2] w fun e w' => e = .returned (.int .u64 (wsV 2 127 v)) ∧ Below w.heap.size w w' := by
  have hs := sign_yes 46 (by omega) w hT ⟨44, 47, 4, 127, 0, 127⟩ (by rfl) (by decide)
  simp only [errV_0] at hs
  have HS := hide hs; clear hs hT
  have HV := hide (wsv_46 v h0 h1)
  go_enter Tryz.func52, Tryz.ntmps52
  go_wp2_with fail
  refine (unhide HS).mono ?_
  rintro e w1 ⟨k, rfl, ho, hb1⟩
  obtain ⟨ad, cap, rfl⟩ := own_slice ho
  have HB1 := hide hb1; clear hb1 ho
  go_wp2_with fail
  have hbd : 0 ≤ IntKind.u64.wrap (wrap64 (v * 281474976710656) / 281474976710656) ∧ IntKind.u64.wrap (wrap64 (v * 281474976710656) / 281474976710656) < 18446744073709551616 := by rw [IntKind.wrap_u64]; omega
  refine (low32_any _ _ hbd.1 hbd.2).mono ?_
  rintro e w2 ⟨rfl, rfl⟩
  rw [unhide HV]
  clear hbd
  go_wp2
  go_ret
  exact ⟨rfl, (unhide HB1).alloc (unhide HB1).size _⟩

theorem wsv_48 (v : Int) (h0 : 0 ≤ v) (h1 : v < 256) : IntKind.u64.wrap (wrap64 (v * 72057594037927936) / 72057594037927936) = wsV 1 126 v := by
  unfold wsV
  rw [show (2 : Int) ^ (8 * 1 - 1) = 128 by decide, show (2 : Int) ^ (8 * 1) = 256 by decide, if_neg (show ¬ (126 : Int) = 127 by decide), IntKind.wrap_u64, wrap64_at]
  by_cases hv : v < 128
  · rw [if_pos hv, if_pos (by omega)]; omega
  · rw [if_neg hv, if_neg (by omega)]; omega
set_option maxRecDepth 100000 in
set_option maxHeartbeats 1600000 in
theorem ws_48 (v : Int) (h0 : 0 ≤ v) (h1 : v < 256) (w : World) (hT : TC w 5 fmV) :
    Calls Tryz.prog 52 #[.int .u8 48, .int .u64 v, .int .i64 1] w fun e w' => e = .returned (.int .u64 (wsV 1 126 v)) ∧ Below w.heap.size w w' := by
  have hs := sign_yes 48 (by omega) w hT ⟨48, 53, 4, 127, 0, 126⟩ (by rfl) (by decide)
  simp only [errV_0] at hs
  have HS := hide hs; clear hs hT
  have HV := hide (wsv_48 v h0 h1)
  go_enter Tryz.func52, Tryz.ntmps52
  go_wp2_with fail
  refine (unhide HS).mono ?_
  rintro e w1 ⟨k, rfl, ho, hb1⟩
  obtain ⟨ad, cap, rfl⟩ := own_slice ho
  have HB1 := hide hb1; clear hb1 ho
  go_wp2
  go_ret
  exact ⟨ret_int (unhide HV), (unhide HB1).alloc (unhide HB1).size _⟩

theorem wsv_50 (v : Int) (h0 : 0 ≤ v) (h1 : v < 65536) : IntKind.u64.wrap (wrap64 (v * 281474976710656) / 281474976710656) = wsV 2 126 v := by
  unfold wsV
  rw [show (2 : Int) ^ (8 * 2 - 1) = 32768 by decide, show (2 : Int) ^ (8 * 2) = 65536 by decide, if_neg (show ¬ (126 : Int) = 127 by decide), IntKind.wrap_u64, wrap64_at]
  by_cases hv : v < 32768
  · rw [if_pos hv, if_pos (by omega)]; omega
  · rw [if_neg hv, if_neg (by omega)]; omega
set_option maxRecDepth 100000 in
set_option maxHeartbeats 1600000 in
theorem ws_50 (v : Int) (h0 : 0 ≤ v) (h1 : v < 65536) (w : World) (hT : TC w 5 fmV) :
    Calls Tryz.prog 52 #[.int .u8 50, .int .u64 v, .int .i64 2] w fun e w' => e = .returned (.int .u64 (wsV 2 126 v)) ∧ Below w.heap.size w w' := by
  have hs := sign_yes 50 (by omega) w hT ⟨48, 53, 4, 127, 0, 126⟩ (by rfl) (by decide)
  simp only [errV_0] at hs
  have HS := hide hs; clear hs hT
  have HV := hide (wsv_50 v h0 h1)
  go_enter Tryz.func52, Tryz.ntmps52
  go_wp2_with fail
  refine (unhide HS).mono ?_
  rintro e w1 ⟨k, rfl, ho, hb1⟩
  obtain ⟨ad, cap, rfl⟩ := own_slice ho
  have HB1 := hide hb1; clear hb1 ho
  go_wp2
  go_ret
  exact ⟨ret_int (unhide HV), (unhide HB1).alloc (unhide HB1).size _⟩

theorem wsv_52 (v : Int) (h0 : 0 ≤ v) (h1 : v < 4294967296) : IntKind.u64.wrap (wrap64 (v * 4294967296) / 4294967296) = wsV 4 126 v := by
  unfold wsV
  rw [show (2 : Int) ^ (8 * 4 - 1) = 2147483648 by decide, show (2 : Int) ^ (8 * 4) = 4294967296 by decide, if_neg (show ¬ (126 : Int) = 127 by decide), IntKind.wrap_u64, wrap64_at]
  by_cases hv : v < 2147483648
  · rw [if_pos hv, if_pos (by omega)]; omega
  · rw [if_neg hv, if_neg (by omega)]; omega
set_option maxRecDepth 100000 in
set_option maxHeartbeats 1600000 in
theorem ws_52 (v : Int) (h0 : 0 ≤ v) (h1 : v < 4294967296) (w : World) (hT : TC w 5 fmV) :
    Calls Tryz.prog 52 #[.int .u8 52, .int .u64 v, .int .i64 4] w fun e w' => e = .returned (.int .u64 (wsV 4 126 v)) ∧ Below w.heap.size w w' := by
  have hs := sign_yes 52 (by omega) w hT ⟨48, 53, 4, 127, 0, 126⟩ (by rfl) (by decide)
  simp only [errV_0] at hs
  have HS := hide hs; clear hs hT
  have HV := hide (wsv_52 v h0 h1)
  go_enter Tryz.func52, Tryz.ntmps52
  go_wp2_with fail
  refine (unhide HS).mono ?_
  rintro e w1 ⟨k, rfl, ho, hb1⟩
  obtain ⟨ad, cap, rfl⟩ := own_slice ho
  have HB1 := hide hb1; clear hb1 ho
  go_wp2
  go_ret
  exact ⟨ret_int (unhide HV), (unhide HB1).alloc (unhide HB1).size _⟩

/-- what a load gives of the number that lies there -/
def ldW (n : Nat) (v : Int) : Int := if sfx (nm n) then wsV (ab n).toNat (((fam n).map (·.g)).getD 0) v else v
set_option maxRecDepth 100000 in
theorem sfx_mem : ∀ n, n < 54 → sfx (nm n) = true → n = 44 ∨ n = 46 ∨ n = 48 ∨ n = 50 ∨ n = 52 := by decide
theorem ws_any (n : Nat) (hn : n < 54) (hs : sfx (nm n) = true) (v : Int) (h0 : 0 ≤ v) (h1 : v < 256 ^ (ab n).toNat) (w : World) (hT : TC w 5 fmV) :
    Calls Tryz.prog 52 #[.int .u8 n, .int .u64 v, .int .i64 (ab n)] w fun e w' => e = .returned (.int .u64 (ldW n v)) ∧ Below w.heap.size w w' := by
  unfold ldW
  rw [if_pos hs]
  rcases sfx_mem n hn hs with rfl | rfl | rfl | rfl | rfl
  · exact ws_44 v h0 h1 w hT
  · exact ws_46 v h0 h1 w hT
  · exact ws_48 v h0 h1 w hT
  · exact ws_50 v h0 h1 w hT
  · exact ws_52 v h0 h1 w hT
set_option maxRecDepth 100000 in
theorem ab_sz : ∀ n, n < 63 → ab n ≠ 0 → ab n = 1 ∨ ab n = 2 ∨ ab n = 4 ∨ ab n = 8 := by decide
theorem ab_lt (n : Nat) (h : ab n ≠ 0) : n < 63 := by
  by_cases hl : n < abs'.length
  · exact hl
  · exact absurd (by unfold ab; simp [List.getD, hl]) h
theorem low_bd (a : Int) (h : U64 a) : U64 (a % 4294967296) := by obtain ⟨a0, a1⟩ := h; exact ⟨by omega, by omega⟩
theorem Tb.drew {w : World} (h : Tb w) (k : Nat) : Tb (w.drewN k) := h.below (Below.drewn w k)

set_option maxRecDepth 100000 in
set_option maxHeartbeats 1600000 in
theorem load9_yes {w : World} {b g N cap : Nat} {most : Int} {zs : List Int} (hm : MemAt w b g N cap most zs) (n : Nat) (hn : n < 54) (h0 : ab n ≠ 0) (a o : Int) (ha : U64 a) (ho : 0 ≤ o ∧ o < 4294967296) (hf : fits N (a % 4294967296) o (ab n) = true) (hTb : Tb w) :
    Calls Tryz.prog 21 #[.pointer (some ⟨b, 0, none⟩), .int .u8 n, .int .u64 a, .int .u32 o] w fun e w' => e = .returned (.tuple #[.int .u64 (ldW n (ldZ zs (a % 4294967296 + o).toNat (ab n).toNat)), .int .i64 0, .nilIface]) ∧ Below w.heap.size w w' := by
  have hB := bytes_yes n (by omega) w hTb.2.2 hTb.1 h0
  simp only [errV_0] at hB
  have hL := fun k => load_yes (hm.keep (w' := w.drewN k) rfl rfl) (a % 4294967296) o (ab n) (low_bd a ha) ⟨ho.1, by omega⟩ hf
  have hbd := ldZ_bd (ab n).toNat zs (a % 4294967296 + o).toNat hm.byt_at
  have hW := fun hs W hT => ws_any n hn hs (ldZ zs (a % 4294967296 + o).toNat (ab n).toNat) hbd.1 hbd.2 W hT
  have hno : sfx (nm n) = false → ldW n (ldZ zs (a % 4294967296 + o).toNat (ab n).toNat) = ldZ zs (a % 4294967296 + o).toNat (ab n).toNat := fun hs => by unfold ldW; rw [hs]; rfl
  have n54 : ¬ (54 : Int) ≤ n := by omega
  obtain ⟨a0, a1⟩ := ha
  obtain ⟨o0, o1⟩ := ho
  have HTb := hide hTb; have HB := hide hB; have HL := hide hL; have HW := hide hW; have HN := hide hno
  clear hTb hB hL hW hno hf hm hbd
  generalize ldZ zs (a % 4294967296 + o).toNat (ab n).toNat = z at *
  have hl := fun W => low32_any a W a0 a1
  have HLo := hide hl; clear hl
  generalize a % 4294967296 = la at *
  cases hs : sfx (nm n)
  · rw [hs] at HB
    have e1 := unhide HN hs
    rw [e1]
    generalize ldW n z = y at *
    clear HW HN e1 hs hn h0
    generalize ab n = s at *
    go_enter Tryz.func21, Tryz.ntmps21
    go_wp2_with fail
    refine (unhide HB).mono ?_
    rintro e w1 ⟨rfl, k, rfl⟩
    go_wp2_with fail
    refine (unhide HLo _).mono ?_
    rintro e w1 ⟨rfl, rfl⟩
    go_wp2_with fail
    refine (unhide HL k).mono ?_
    rintro e w2 ⟨rfl, hb2⟩
    have HB2 := hide (Below.on (Below.drewn w k) hb2); clear hb2
    go_wp2
    go_ret3
    exact ⟨rfl, unhide HB2⟩
  · rw [hs] at HB
    have HW1 := hide (unhide HW hs)
    clear HW HN hs hn h0
    generalize ldW n z = y at *
    generalize ab n = s at *
    go_enter Tryz.func21, Tryz.ntmps21
    go_wp2_with fail
    refine (unhide HB).mono ?_
    rintro e w1 ⟨rfl, k, rfl⟩
    go_wp2_with fail
    refine (unhide HLo _).mono ?_
    rintro e w1 ⟨rfl, rfl⟩
    go_wp2_with fail
    refine (unhide HL k).mono ?_
    rintro e w2 ⟨rfl, hb2⟩
    have HB2 := hide (Below.on (Below.drewn w k) hb2); clear hb2
    go_wp2_with fail
    refine (unhide HW1 _ ((unhide HTb).below (unhide HB2)).2.1).mono ?_
    rintro e w3 ⟨rfl, hb3⟩
    have HB3 := hide (Below.on (unhide HB2) hb3); clear hb3
    go_wp2
    go_ret3
    exact ⟨rfl, unhide HB3⟩

set_option maxRecDepth 100000 in
set_option maxHeartbeats 1600000 in
theorem load9_far {w : World} {b g N cap : Nat} {most : Int} {zs : List Int} (hm : MemAt w b g N cap most zs) (n : Nat) (hn : n < 54) (h0 : ab n ≠ 0) (a o : Int) (ha : U64 a) (ho : 0 ≤ o ∧ o < 4294967296) (hf : fits N (a % 4294967296) o (ab n) = false) (hTb : Tb w) :
    Calls Tryz.prog 21 #[.pointer (some ⟨b, 0, none⟩), .int .u8 n, .int .u64 a, .int .u32 o] w fun e w' => e = .returned (.tuple #[.int .u64 0, .int .i64 4, .nilIface]) ∧ Below w.heap.size w w' := by
  have hB := bytes_yes n (by omega) w hTb.2.2 hTb.1 h0
  simp only [errV_0] at hB
  have habs := ab_sz n (by omega) h0
  have hL := fun k => load_no (hm.keep (w' := w.drewN k) rfl rfl) (a % 4294967296) o (ab n) (low_bd a ha) ⟨ho.1, by omega⟩ ⟨by omega, by omega⟩ hf
  have n54 : ¬ (54 : Int) ≤ n := by omega
  obtain ⟨a0, a1⟩ := ha
  obtain ⟨o0, o1⟩ := ho
  have HB := hide hB; have HL := hide hL
  clear hTb hB hL hf hm habs h0 hn
  have hl := fun W => low32_any a W a0 a1
  have HLo := hide hl; clear hl
  generalize a % 4294967296 = la at *
  generalize ab n = s at *
  generalize sfx (nm n) = sx at *
  go_enter Tryz.func21, Tryz.ntmps21
  go_wp2_with fail
  refine (unhide HB).mono ?_
  rintro e w1 ⟨rfl, k, rfl⟩
  go_wp2_with fail
  refine (unhide HLo _).mono ?_
  rintro e w1 ⟨rfl, rfl⟩
  go_wp2_with fail
  refine (unhide HL k).mono ?_
  rintro e w2 ⟨rfl, rfl⟩
  go_wp2
  go_ret3
  exact ⟨rfl, Below.drewn w k⟩

set_option maxRecDepth 100000 in
set_option maxHeartbeats 1600000 in
theorem load9_no (p : Value) (n : Nat) (hn : n < 256) (h0 : ab n = 0 ∨ 54 ≤ n) (a o : Int) (w : World) (hTb : Tb w) :
    Calls Tryz.prog 21 #[p, .int .u8 n, .int .u64 a, .int .u32 o] w fun e w' => e = .returned (.tuple #[.int .u64 0, .int .i64 0, .iface 135 (.int .i64 1)]) ∧ Below w.heap.size w w' := by
  by_cases hz : ab n = 0
  · have hB := bytes_no n hn w hTb.2.2 hz
    simp only [errV_1] at hB
    have HB := hide hB
    clear hB hTb h0 hz
    go_enter Tryz.func21, Tryz.ntmps21
    go_wp2_with fail
    refine (unhide HB).mono ?_
    rintro e w1 ⟨rfl, rfl⟩
    go_wp2
    go_ret3
    exact ⟨rfl, Below.refl _ _⟩
  · have hB := bytes_yes n (ab_lt n hz) w hTb.2.2 hTb.1 hz
    simp only [errV_0] at hB
    have n54 : (54 : Int) ≤ n := by omega
    have HB := hide hB
    clear hB hTb h0 hz
    generalize ab n = s at *
    generalize sfx (nm n) = sx at *
    go_enter Tryz.func21, Tryz.ntmps21
    go_wp2_with fail
    refine (unhide HB).mono ?_
    rintro e w1 ⟨rfl, k, rfl⟩
    go_wp2
    go_ret3
    exact ⟨rfl, Below.drewn w k⟩

set_option maxRecDepth 100000 in
set_option maxHeartbeats 1600000 in
theorem store9_yes {w : World} {b g N cap : Nat} {most : Int} {zs : List Int} (hm : MemAt w b g N cap most zs) (n : Nat) (hn : 54 ≤ n) (h0 : ab n ≠ 0) (a o v : Int) (ha : U64 a) (ho : 0 ≤ o ∧ o < 4294967296) (hv : U64 v) (hf : fits N (a % 4294967296) o (ab n) = true) (hTb : Tb w) :
    Calls Tryz.prog 24 #[.pointer (some ⟨b, 0, none⟩), .int .u8 n, .int .u64 a, .int .u32 o, .int .u64 v] w fun e w' => e = .returned (.tuple #[.int .i64 0, .nilIface]) ∧ MemAt w' b g N cap most (stZ zs (a % 4294967296 + o).toNat (ab n).toNat v) ∧ Oth b g w w' := by
  have hB := bytes_yes n (ab_lt n h0) w hTb.2.2 hTb.1 h0
  simp only [errV_0] at hB
  have hL := fun k => store_yes (hm.keep (w' := w.drewN k) rfl rfl) (a % 4294967296) o (ab n) v (low_bd a ha) ⟨ho.1, by omega⟩ hv hf
  have n54 : ¬ (n : Int) < 54 := by omega
  obtain ⟨a0, a1⟩ := ha
  obtain ⟨o0, o1⟩ := ho
  obtain ⟨v0, v1⟩ := hv
  have HB := hide hB; have HL := hide hL
  clear hTb hB hL hf hm h0 hn
  have hl := fun W => low32_any a W a0 a1
  have HLo := hide hl; clear hl
  generalize stZ zs (a % 4294967296 + o).toNat (ab n).toNat v = zs' at *
  generalize a % 4294967296 = la at *
  generalize ab n = s at *
  generalize sfx (nm n) = sx at *
  go_enter Tryz.func24, Tryz.ntmps24
  go_wp2_with fail
  refine (unhide HB).mono ?_
  rintro e w1 ⟨rfl, k, rfl⟩
  go_wp2_with fail
  refine (unhide HLo _).mono ?_
  rintro e w1 ⟨rfl, rfl⟩
  go_wp2_with fail
  refine (unhide HL k).mono ?_
  rintro e w2 ⟨rfl, hm2, ho2⟩
  have HM2 := hide hm2; have HO2 := hide ((Oth.ofBelow (Below.drewn w k)).trans ho2); clear hm2 ho2
  go_wp2
  go_ret2
  exact ⟨rfl, unhide HM2, unhide HO2⟩

set_option maxRecDepth 100000 in
set_option maxHeartbeats 1600000 in
theorem store9_far {w : World} {b g N cap : Nat} {most : Int} {zs : List Int} (hm : MemAt w b g N cap most zs) (n : Nat) (hn : 54 ≤ n) (h0 : ab n ≠ 0) (a o v : Int) (ha : U64 a) (ho : 0 ≤ o ∧ o < 4294967296) (hv : U64 v) (hf : fits N (a % 4294967296) o (ab n) = false) (hTb : Tb w) :
    Calls Tryz.prog 24 #[.pointer (some ⟨b, 0, none⟩), .int .u8 n, .int .u64 a, .int .u32 o, .int .u64 v] w fun e w' => e = .returned (.tuple #[.int .i64 4, .nilIface]) ∧ Below w.heap.size w w' := by
  have hB := bytes_yes n (ab_lt n h0) w hTb.2.2 hTb.1 h0
  simp only [errV_0] at hB
  have habs := ab_sz n (ab_lt n h0) h0
  have hL := fun k => store_no (hm.keep (w' := w.drewN k) rfl rfl) (a % 4294967296) o (ab n) v (low_bd a ha) ⟨ho.1, by omega⟩ ⟨by omega, by omega⟩ hf
  have n54 : ¬ (n : Int) < 54 := by omega
  obtain ⟨a0, a1⟩ := ha
  obtain ⟨o0, o1⟩ := ho
  obtain ⟨v0, v1⟩ := hv
  have HB := hide hB; have HL := hide hL
  clear hTb hB hL hf hm h0 hn habs
  have hl := fun W => low32_any a W a0 a1
  have HLo := hide hl; clear hl
  generalize a % 4294967296 = la at *
  generalize ab n = s at *
  generalize sfx (nm n) = sx at *
  go_enter Tryz.func24, Tryz.ntmps24
  go_wp2_with fail
  refine (unhide HB).mono ?_
  rintro e w1 ⟨rfl, k, rfl⟩
  go_wp2_with fail
  refine (unhide HLo _).mono ?_
  rintro e w1 ⟨rfl, rfl⟩
  go_wp2_with fail
  refine (unhide HL k).mono ?_
  rintro e w2 ⟨rfl, rfl⟩
  go_wp2
  go_ret2
  exact ⟨rfl, Below.drewn w k⟩

set_option maxRecDepth 100000 in
set_option maxHeartbeats 1600000 in
theorem store9_no (p : Value) (n : Nat) (hn : n < 256) (h0 : ab n = 0 ∨ n < 54) (a o v : Int) (w : World) (hTb : Tb w) :
    Calls Tryz.prog 24 #[p, .int .u8 n, .int .u64 a, .int .u32 o, .int .u64 v] w fun e w' => e = .returned (.tuple #[.int .i64 0, .iface 135 (.int .i64 1)]) ∧ Below w.heap.size w w' := by
  by_cases hz : ab n = 0
  · have hB := bytes_no n hn w hTb.2.2 hz
    simp only [errV_1] at hB
    have HB := hide hB
    clear hB hTb h0 hz
    go_enter Tryz.func24, Tryz.ntmps24
    go_wp2_with fail
    refine (unhide HB).mono ?_
    rintro e w1 ⟨rfl, rfl⟩
    go_wp2
    go_ret2
    exact ⟨rfl, Below.refl _ _⟩
  · have hB := bytes_yes n (ab_lt n hz) w hTb.2.2 hTb.1 hz
    simp only [errV_0] at hB
    have n54 : (n : Int) < 54 := by omega
    have HB := hide hB
    clear hB hTb h0 hz
    generalize ab n = s at *
    generalize sfx (nm n) = sx at *
    go_enter Tryz.func24, Tryz.ntmps24
    go_wp2_with fail
    refine (unhide HB).mono ?_
    rintro e w1 ⟨rfl, k, rfl⟩
    go_wp2
    go_ret2
    exact ⟨rfl, Below.drewn w k⟩
end Go.Proofs.YtcljcnaglkbjcaaGreatDoor
