/- InstSigns: the walk, five ways. -/
import Derived.Test.YtcljcnaglkbjcaaGreatDoorInD
import Derived.Test.YtcljcnaglkbjcaaGreatDoorMemBackM
namespace Go.Proofs.YtcljcnaglkbjcaaGreatDoor
open Go.RowKit Go.Maps Go.Shelf Mm
set_option linter.unusedVariables false
theorem ld_44 (x : Int) : ldW 44 x = wsV 1 127 x := rfl
theorem ld_45 (x : Int) : ldW 45 x = x := rfl
theorem ld_46 (x : Int) : ldW 46 x = wsV 2 127 x := rfl
theorem ld_47 (x : Int) : ldW 47 x = x := rfl
theorem ld_48 (x : Int) : ldW 48 x = wsV 1 126 x := rfl
theorem ld_49 (x : Int) : ldW 49 x = x := rfl
theorem ld_50 (x : Int) : ldW 50 x = wsV 2 126 x := rfl
theorem ld_51 (x : Int) : ldW 51 x = x := rfl
theorem ld_52 (x : Int) : ldW 52 x = wsV 4 126 x := rfl
theorem ld_53 (x : Int) : ldW 53 x = x := rfl

set_option maxRecDepth 100000 in
set_option maxHeartbeats 4000000 in
theorem signs_0 (n v : Int) (h0 : 0 ≤ v) (h1 : v < 18446744073709551616) (hk : (IntKind.u64.wrap n).tmod 5 = 0) (w : World) (hG : Gl w) :
    Calls Tryz.prog 8 #[.int .i64 n, .int .u64 v] w fun e w' => e = .returned (.bool true) ∧ Below w.heap.size w w' := by
  have HG := hide hG; clear hG
  go_enter Tryz.func8, Tryz.ntmps8
  go_wp2_with fail
  have hb0 : Below w.heap.size w ((w.alloc (.cells #[.int .i64 44, .int .i64 8, .int .i64 58, .int .i64 46, .int .i64 16, .int .i64 59, .int .i64 48, .int .i64 8, .int .i64 60, .int .i64 50, .int .i64 16, .int .i64 61, .int .i64 52, .int .i64 32, .int .i64 62] 102)).alloc (.cells #[.int .i64 44, .int .i64 8, .int .i64 58] 102)) := ((Below.refl _ _).alloc (Nat.le_refl _) _).alloc (by simp) _
  have hr0 : ((w.alloc (.cells #[.int .i64 44, .int .i64 8, .int .i64 58, .int .i64 46, .int .i64 16, .int .i64 59, .int .i64 48, .int .i64 8, .int .i64 60, .int .i64 50, .int .i64 16, .int .i64 61, .int .i64 52, .int .i64 32, .int .i64 62] 102)).alloc (.cells #[.int .i64 44, .int .i64 8, .int .i64 58] 102)).heap[w.heap.size + 1]? = some (.cells #[.int .i64 44, .int .i64 8, .int .i64 58] 102 (0, 0)) := by
    have := heap_alloc_new (w.alloc (.cells #[.int .i64 44, .int .i64 8, .int .i64 58, .int .i64 46, .int .i64 16, .int .i64 59, .int .i64 48, .int .i64 8, .int .i64 60, .int .i64 50, .int .i64 16, .int .i64 61, .int .i64 52, .int .i64 32, .int .i64 62] 102)) (.cells #[.int .i64 44, .int .i64 8, .int .i64 58] 102); simpa using this
  have HB0 := hide hb0; have HR0 := hide hr0; clear hb0 hr0 hk
  generalize ((w.alloc (.cells #[.int .i64 44, .int .i64 8, .int .i64 58, .int .i64 46, .int .i64 16, .int .i64 59, .int .i64 48, .int .i64 8, .int .i64 60, .int .i64 50, .int .i64 16, .int .i64 61, .int .i64 52, .int .i64 32, .int .i64 62] 102)).alloc (.cells #[.int .i64 44, .int .i64 8, .int .i64 58] 102)) = w1 at *
  refine (new_yes 1 1 _ (by omega) (by omega) (by omega)).mono ?_
  rintro e w2 ⟨rfl, hm2, hb2⟩
  simp only [Int.toNat_one, Nat.one_mul] at hm2
  have hr2 := (hb2.block _ (Array.getElem?_eq_some_iff.1 (unhide HR0)).1).trans (unhide HR0)
  have hlt := (Array.getElem?_eq_some_iff.1 (unhide HR0)).1
  obtain ⟨c0, c1, c2⟩ := ebox hr2
  have lt2 := (Array.getElem?_eq_some_iff.1 hr2).1
  have HB2 := hide (Below.on (unhide HB0) hb2); have HM2 := hide hm2; have HR2 := hide hr2
  have HLT := hide hlt
  have HBW := hide (unhide HB0).size
  clear hm2 hb2 hr2 HB0 HR0 hlt
  go_wp2_with fail
  refine (store9_yes (unhide HM2) 58 (by omega) (by decide) 100 4 v ⟨by omega, by omega⟩ ⟨by omega, by omega⟩ ⟨h0, h1⟩ (by decide) ((unhide HG).below (unhide HB2)).1).mono ?_
  rintro e w3 ⟨rfl, hm3, ho3⟩
  have hb3 := (unhide HB2).trans (ho3.below (unhide HB2).size (by have := unhide HBW; omega) (by have := unhide HBW; omega))
  have hr3 := (ho3.block (w.heap.size + 1) lt2 (by have := unhide HLT; omega) (by have := unhide HLT; omega)).trans (unhide HR2)
  clear ho3 c0 c1 c2 lt2 HM2 HR2 HB2
  obtain ⟨c0, c1, c2⟩ := ebox hr3
  have lt3 := (Array.getElem?_eq_some_iff.1 hr3).1
  have hld : ldZ (stZ (List.replicate 4096 0) (100 % 4294967296 + 4 : Int).toNat (ab 58).toNat v) 104 1 = v % 256 :=
    ldZ_num 1 _ 104 v (fun i hi => by rw [show (100 % 4294967296 + 4 : Int).toNat = 104 by decide, show (ab 58).toNat = 1 by decide, stZ_get 1 _ _ _ _ (by rw [List.length_replicate]; omega), if_pos (by omega), show 104 + i - 104 = i from by omega])
  have HM3 := hide hm3; have HB3 := hide hb3; have HR3 := hide hr3; have HLD := hide hld
  clear hm3 hb3 hr3 hld
  go_wp2_with fail
  refine (load9_yes (unhide HM3) 44 (by omega) (by decide) 104 0 ⟨by omega, by omega⟩ ⟨by omega, by omega⟩ (by decide) ((unhide HG).below (unhide HB3)).1).mono ?_
  rintro e w4 ⟨rfl, hb4⟩
  rw [show (104 % 4294967296 + 0 : Int).toNat = 104 by decide, show (ab 44).toNat = 1 by decide, unhide HLD]
  have hm4 := (unhide HM3).below (Nat.le_refl _) hb4
  have hr4 := (hb4.block _ lt3).trans (unhide HR3)
  have hbb4 := Below.on (unhide HB3) hb4
  clear c0 c1 c2 lt3 HM3 HR3 HB3 hb4
  obtain ⟨c0, c1, c2⟩ := ebox hr4
  have lt4 := (Array.getElem?_eq_some_iff.1 hr4).1
  have HM4 := hide hm4; have HB4 := hide hbb4; have HR4 := hide hr4
  clear hm4 hbb4 hr4
  go_wp2_with fail
  refine (load9_yes (unhide HM4) 45 (by omega) (by decide) 0 104 ⟨by omega, by omega⟩ ⟨by omega, by omega⟩ (by decide) ((unhide HG).below (unhide HB4)).1).mono ?_
  rintro e w5 ⟨rfl, hb5⟩
  rw [show (0 % 4294967296 + 104 : Int).toNat = 104 by decide, show (ab 45).toNat = 1 by decide, unhide HLD, ld_45]
  have hr5 := (hb5.block _ lt4).trans (unhide HR4)
  have hbb5 := Below.on (unhide HB4) hb5
  clear c0 c1 c2 lt4 HM4 HR4 HB4 hb5
  obtain ⟨c0, c1, c2⟩ := ebox hr5
  have lt5 := (Array.getElem?_eq_some_iff.1 hr5).1
  have HB5 := hide hbb5
  clear hbb5 hr5
  rw [ld_44]
  generalize hx : v % 256 = x at *
  have HX := hide hx; clear hx HLD
  have hx0 : 0 ≤ x ∧ x < 256 := by rw [← unhide HX]; omega
  have a1 : bits .and .u64 v 255 = x := by rw [← unhide HX]; exact and_mask v 8 (by omega) 255 256 (by decide) (by decide) h0 h1
  have hA : wsV 1 127 x = (if x < 128 then x else x - 256) % 4294967296 := by rfl
  by_cases hs : x < 128
  · have eA : wsV 1 127 x = x := by rw [hA, if_pos hs]; omega
    rw [eA]
    have a2 : bits .and .u64 x 255 = x := by rw [and_mask x 8 (by omega) 255 256 (by decide) (by decide) hx0.1 (by omega)]; omega
    have t1 : (x / 128 == 1) = false := by simp; omega
    clear eA hA hs hx0
    go_wp2_with fail
    refine (sure_any _ ((unhide HG).below (unhide HB5))).mono ?_
    rintro e w6 ⟨rfl, hb6⟩
    have HB6 := hide (Below.on (unhide HB5) hb6); clear hb6
    go_wp2
    go_ret
    exact ⟨rfl, unhide HB6⟩
  · obtain ⟨A, eA⟩ : ∃ A, A = wsV 1 127 x := ⟨_, rfl⟩
    rw [← eA]
    rw [hA, if_neg hs] at eA
    have a2 : bits .and .u64 A 255 = x := by rw [and_mask A 8 (by omega) 255 256 (by decide) (by decide) (by omega) (by omega)]; omega
    have t1 : (x / 128 == 1) = true := by simp; omega
    have t2 : (A == x) = false := by simp; omega
    clear eA hA hs hx0
    go_wp2_with fail
    refine (sure_any _ ((unhide HG).below (unhide HB5))).mono ?_
    rintro e w6 ⟨rfl, hb6⟩
    have HB6 := hide (Below.on (unhide HB5) hb6); clear hb6
    go_wp2
    go_ret
    exact ⟨rfl, unhide HB6⟩


set_option maxRecDepth 100000 in
set_option maxHeartbeats 4000000 in
theorem signs_1 (n v : Int) (h0 : 0 ≤ v) (h1 : v < 18446744073709551616) (hk : (IntKind.u64.wrap n).tmod 5 = 1) (w : World) (hG : Gl w) :
    Calls Tryz.prog 8 #[.int .i64 n, .int .u64 v] w fun e w' => e = .returned (.bool true) ∧ Below w.heap.size w w' := by
  have HG := hide hG; clear hG
  go_enter Tryz.func8, Tryz.ntmps8
  go_wp2_with fail
  have hb0 : Below w.heap.size w ((w.alloc (.cells #[.int .i64 44, .int .i64 8, .int .i64 58, .int .i64 46, .int .i64 16, .int .i64 59, .int .i64 48, .int .i64 8, .int .i64 60, .int .i64 50, .int .i64 16, .int .i64 61, .int .i64 52, .int .i64 32, .int .i64 62] 102)).alloc (.cells #[.int .i64 46, .int .i64 16, .int .i64 59] 102)) := ((Below.refl _ _).alloc (Nat.le_refl _) _).alloc (by simp) _
  have hr0 : ((w.alloc (.cells #[.int .i64 44, .int .i64 8, .int .i64 58, .int .i64 46, .int .i64 16, .int .i64 59, .int .i64 48, .int .i64 8, .int .i64 60, .int .i64 50, .int .i64 16, .int .i64 61, .int .i64 52, .int .i64 32, .int .i64 62] 102)).alloc (.cells #[.int .i64 46, .int .i64 16, .int .i64 59] 102)).heap[w.heap.size + 1]? = some (.cells #[.int .i64 46, .int .i64 16, .int .i64 59] 102 (0, 0)) := by
    have := heap_alloc_new (w.alloc (.cells #[.int .i64 44, .int .i64 8, .int .i64 58, .int .i64 46, .int .i64 16, .int .i64 59, .int .i64 48, .int .i64 8, .int .i64 60, .int .i64 50, .int .i64 16, .int .i64 61, .int .i64 52, .int .i64 32, .int .i64 62] 102)) (.cells #[.int .i64 46, .int .i64 16, .int .i64 59] 102); simpa using this
  have HB0 := hide hb0; have HR0 := hide hr0; clear hb0 hr0 hk
  generalize ((w.alloc (.cells #[.int .i64 44, .int .i64 8, .int .i64 58, .int .i64 46, .int .i64 16, .int .i64 59, .int .i64 48, .int .i64 8, .int .i64 60, .int .i64 50, .int .i64 16, .int .i64 61, .int .i64 52, .int .i64 32, .int .i64 62] 102)).alloc (.cells #[.int .i64 46, .int .i64 16, .int .i64 59] 102)) = w1 at *
  refine (new_yes 1 1 _ (by omega) (by omega) (by omega)).mono ?_
  rintro e w2 ⟨rfl, hm2, hb2⟩
  simp only [Int.toNat_one, Nat.one_mul] at hm2
  have hr2 := (hb2.block _ (Array.getElem?_eq_some_iff.1 (unhide HR0)).1).trans (unhide HR0)
  have hlt := (Array.getElem?_eq_some_iff.1 (unhide HR0)).1
  obtain ⟨c0, c1, c2⟩ := ebox hr2
  have lt2 := (Array.getElem?_eq_some_iff.1 hr2).1
  have HB2 := hide (Below.on (unhide HB0) hb2); have HM2 := hide hm2; have HR2 := hide hr2
  have HLT := hide hlt
  have HBW := hide (unhide HB0).size
  clear hm2 hb2 hr2 HB0 HR0 hlt
  go_wp2_with fail
  refine (store9_yes (unhide HM2) 59 (by omega) (by decide) 100 4 v ⟨by omega, by omega⟩ ⟨by omega, by omega⟩ ⟨h0, h1⟩ (by decide) ((unhide HG).below (unhide HB2)).1).mono ?_
  rintro e w3 ⟨rfl, hm3, ho3⟩
  have hb3 := (unhide HB2).trans (ho3.below (unhide HB2).size (by have := unhide HBW; omega) (by have := unhide HBW; omega))
  have hr3 := (ho3.block (w.heap.size + 1) lt2 (by have := unhide HLT; omega) (by have := unhide HLT; omega)).trans (unhide HR2)
  clear ho3 c0 c1 c2 lt2 HM2 HR2 HB2
  obtain ⟨c0, c1, c2⟩ := ebox hr3
  have lt3 := (Array.getElem?_eq_some_iff.1 hr3).1
  have hld : ldZ (stZ (List.replicate 4096 0) (100 % 4294967296 + 4 : Int).toNat (ab 59).toNat v) 104 2 = v % 65536 :=
    ldZ_num 2 _ 104 v (fun i hi => by rw [show (100 % 4294967296 + 4 : Int).toNat = 104 by decide, show (ab 59).toNat = 2 by decide, stZ_get 2 _ _ _ _ (by rw [List.length_replicate]; omega), if_pos (by omega), show 104 + i - 104 = i from by omega])
  have HM3 := hide hm3; have HB3 := hide hb3; have HR3 := hide hr3; have HLD := hide hld
  clear hm3 hb3 hr3 hld
  go_wp2_with fail
  refine (load9_yes (unhide HM3) 46 (by omega) (by decide) 104 0 ⟨by omega, by omega⟩ ⟨by omega, by omega⟩ (by decide) ((unhide HG).below (unhide HB3)).1).mono ?_
  rintro e w4 ⟨rfl, hb4⟩
  rw [show (104 % 4294967296 + 0 : Int).toNat = 104 by decide, show (ab 46).toNat = 2 by decide, unhide HLD]
  have hm4 := (unhide HM3).below (Nat.le_refl _) hb4
  have hr4 := (hb4.block _ lt3).trans (unhide HR3)
  have hbb4 := Below.on (unhide HB3) hb4
  clear c0 c1 c2 lt3 HM3 HR3 HB3 hb4
  obtain ⟨c0, c1, c2⟩ := ebox hr4
  have lt4 := (Array.getElem?_eq_some_iff.1 hr4).1
  have HM4 := hide hm4; have HB4 := hide hbb4; have HR4 := hide hr4
  clear hm4 hbb4 hr4
  go_wp2_with fail
  refine (load9_yes (unhide HM4) 47 (by omega) (by decide) 0 104 ⟨by omega, by omega⟩ ⟨by omega, by omega⟩ (by decide) ((unhide HG).below (unhide HB4)).1).mono ?_
  rintro e w5 ⟨rfl, hb5⟩
  rw [show (0 % 4294967296 + 104 : Int).toNat = 104 by decide, show (ab 47).toNat = 2 by decide, unhide HLD, ld_47]
  have hr5 := (hb5.block _ lt4).trans (unhide HR4)
  have hbb5 := Below.on (unhide HB4) hb5
  clear c0 c1 c2 lt4 HM4 HR4 HB4 hb5
  obtain ⟨c0, c1, c2⟩ := ebox hr5
  have lt5 := (Array.getElem?_eq_some_iff.1 hr5).1
  have HB5 := hide hbb5
  clear hbb5 hr5
  rw [ld_46]
  generalize hx : v % 65536 = x at *
  have HX := hide hx; clear hx HLD
  have hx0 : 0 ≤ x ∧ x < 65536 := by rw [← unhide HX]; omega
  have a1 : bits .and .u64 v 65535 = x := by rw [← unhide HX]; exact and_mask v 16 (by omega) 65535 65536 (by decide) (by decide) h0 h1
  have hA : wsV 2 127 x = (if x < 32768 then x else x - 65536) % 4294967296 := by rfl
  by_cases hs : x < 32768
  · have eA : wsV 2 127 x = x := by rw [hA, if_pos hs]; omega
    rw [eA]
    have a2 : bits .and .u64 x 65535 = x := by rw [and_mask x 16 (by omega) 65535 65536 (by decide) (by decide) hx0.1 (by omega)]; omega
    have t1 : (x / 32768 == 1) = false := by simp; omega
    clear eA hA hs hx0
    go_wp2_with fail
    refine (sure_any _ ((unhide HG).below (unhide HB5))).mono ?_
    rintro e w6 ⟨rfl, hb6⟩
    have HB6 := hide (Below.on (unhide HB5) hb6); clear hb6
    go_wp2
    go_ret
    exact ⟨rfl, unhide HB6⟩
  · obtain ⟨A, eA⟩ : ∃ A, A = wsV 2 127 x := ⟨_, rfl⟩
    rw [← eA]
    rw [hA, if_neg hs] at eA
    have a2 : bits .and .u64 A 65535 = x := by rw [and_mask A 16 (by omega) 65535 65536 (by decide) (by decide) (by omega) (by omega)]; omega
    have t1 : (x / 32768 == 1) = true := by simp; omega
    have t2 : (A == x) = false := by simp; omega
    clear eA hA hs hx0
    go_wp2_with fail
    refine (sure_any _ ((unhide HG).below (unhide HB5))).mono ?_
    rintro e w6 ⟨rfl, hb6⟩
    have HB6 := hide (Below.on (unhide HB5) hb6); clear hb6
    go_wp2
    go_ret
    exact ⟨rfl, unhide HB6⟩


set_option maxRecDepth 100000 in
set_option maxHeartbeats 4000000 in
theorem signs_2 (n v : Int) (h0 : 0 ≤ v) (h1 : v < 18446744073709551616) (hk : (IntKind.u64.wrap n).tmod 5 = 2) (w : World) (hG : Gl w) :
    Calls Tryz.prog 8 #[.int .i64 n, .int .u64 v] w fun e w' => e = .returned (.bool true) ∧ Below w.heap.size w w' := by
  have HG := hide hG; clear hG
  go_enter Tryz.func8, Tryz.ntmps8
  go_wp2_with fail
  have hb0 : Below w.heap.size w ((w.alloc (.cells #[.int .i64 44, .int .i64 8, .int .i64 58, .int .i64 46, .int .i64 16, .int .i64 59, .int .i64 48, .int .i64 8, .int .i64 60, .int .i64 50, .int .i64 16, .int .i64 61, .int .i64 52, .int .i64 32, .int .i64 62] 102)).alloc (.cells #[.int .i64 48, .int .i64 8, .int .i64 60] 102)) := ((Below.refl _ _).alloc (Nat.le_refl _) _).alloc (by simp) _
  have hr0 : ((w.alloc (.cells #[.int .i64 44, .int .i64 8, .int .i64 58, .int .i64 46, .int .i64 16, .int .i64 59, .int .i64 48, .int .i64 8, .int .i64 60, .int .i64 50, .int .i64 16, .int .i64 61, .int .i64 52, .int .i64 32, .int .i64 62] 102)).alloc (.cells #[.int .i64 48, .int .i64 8, .int .i64 60] 102)).heap[w.heap.size + 1]? = some (.cells #[.int .i64 48, .int .i64 8, .int .i64 60] 102 (0, 0)) := by
    have := heap_alloc_new (w.alloc (.cells #[.int .i64 44, .int .i64 8, .int .i64 58, .int .i64 46, .int .i64 16, .int .i64 59, .int .i64 48, .int .i64 8, .int .i64 60, .int .i64 50, .int .i64 16, .int .i64 61, .int .i64 52, .int .i64 32, .int .i64 62] 102)) (.cells #[.int .i64 48, .int .i64 8, .int .i64 60] 102); simpa using this
  have HB0 := hide hb0; have HR0 := hide hr0; clear hb0 hr0 hk
  generalize ((w.alloc (.cells #[.int .i64 44, .int .i64 8, .int .i64 58, .int .i64 46, .int .i64 16, .int .i64 59, .int .i64 48, .int .i64 8, .int .i64 60, .int .i64 50, .int .i64 16, .int .i64 61, .int .i64 52, .int .i64 32, .int .i64 62] 102)).alloc (.cells #[.int .i64 48, .int .i64 8, .int .i64 60] 102)) = w1 at *
  refine (new_yes 1 1 _ (by omega) (by omega) (by omega)).mono ?_
  rintro e w2 ⟨rfl, hm2, hb2⟩
  simp only [Int.toNat_one, Nat.one_mul] at hm2
  have hr2 := (hb2.block _ (Array.getElem?_eq_some_iff.1 (unhide HR0)).1).trans (unhide HR0)
  have hlt := (Array.getElem?_eq_some_iff.1 (unhide HR0)).1
  obtain ⟨c0, c1, c2⟩ := ebox hr2
  have lt2 := (Array.getElem?_eq_some_iff.1 hr2).1
  have HB2 := hide (Below.on (unhide HB0) hb2); have HM2 := hide hm2; have HR2 := hide hr2
  have HLT := hide hlt
  have HBW := hide (unhide HB0).size
  clear hm2 hb2 hr2 HB0 HR0 hlt
  go_wp2_with fail
  refine (store9_yes (unhide HM2) 60 (by omega) (by decide) 100 4 v ⟨by omega, by omega⟩ ⟨by omega, by omega⟩ ⟨h0, h1⟩ (by decide) ((unhide HG).below (unhide HB2)).1).mono ?_
  rintro e w3 ⟨rfl, hm3, ho3⟩
  have hb3 := (unhide HB2).trans (ho3.below (unhide HB2).size (by have := unhide HBW; omega) (by have := unhide HBW; omega))
  have hr3 := (ho3.block (w.heap.size + 1) lt2 (by have := unhide HLT; omega) (by have := unhide HLT; omega)).trans (unhide HR2)
  clear ho3 c0 c1 c2 lt2 HM2 HR2 HB2
  obtain ⟨c0, c1, c2⟩ := ebox hr3
  have lt3 := (Array.getElem?_eq_some_iff.1 hr3).1
  have hld : ldZ (stZ (List.replicate 4096 0) (100 % 4294967296 + 4 : Int).toNat (ab 60).toNat v) 104 1 = v % 256 :=
    ldZ_num 1 _ 104 v (fun i hi => by rw [show (100 % 4294967296 + 4 : Int).toNat = 104 by decide, show (ab 60).toNat = 1 by decide, stZ_get 1 _ _ _ _ (by rw [List.length_replicate]; omega), if_pos (by omega), show 104 + i - 104 = i from by omega])
  have HM3 := hide hm3; have HB3 := hide hb3; have HR3 := hide hr3; have HLD := hide hld
  clear hm3 hb3 hr3 hld
  go_wp2_with fail
  refine (load9_yes (unhide HM3) 48 (by omega) (by decide) 104 0 ⟨by omega, by omega⟩ ⟨by omega, by omega⟩ (by decide) ((unhide HG).below (unhide HB3)).1).mono ?_
  rintro e w4 ⟨rfl, hb4⟩
  rw [show (104 % 4294967296 + 0 : Int).toNat = 104 by decide, show (ab 48).toNat = 1 by decide, unhide HLD]
  have hm4 := (unhide HM3).below (Nat.le_refl _) hb4
  have hr4 := (hb4.block _ lt3).trans (unhide HR3)
  have hbb4 := Below.on (unhide HB3) hb4
  clear c0 c1 c2 lt3 HM3 HR3 HB3 hb4
  obtain ⟨c0, c1, c2⟩ := ebox hr4
  have lt4 := (Array.getElem?_eq_some_iff.1 hr4).1
  have HM4 := hide hm4; have HB4 := hide hbb4; have HR4 := hide hr4
  clear hm4 hbb4 hr4
  go_wp2_with fail
  refine (load9_yes (unhide HM4) 49 (by omega) (by decide) 0 104 ⟨by omega, by omega⟩ ⟨by omega, by omega⟩ (by decide) ((unhide HG).below (unhide HB4)).1).mono ?_
  rintro e w5 ⟨rfl, hb5⟩
  rw [show (0 % 4294967296 + 104 : Int).toNat = 104 by decide, show (ab 49).toNat = 1 by decide, unhide HLD, ld_49]
  have hr5 := (hb5.block _ lt4).trans (unhide HR4)
  have hbb5 := Below.on (unhide HB4) hb5
  clear c0 c1 c2 lt4 HM4 HR4 HB4 hb5
  obtain ⟨c0, c1, c2⟩ := ebox hr5
  have lt5 := (Array.getElem?_eq_some_iff.1 hr5).1
  have HB5 := hide hbb5
  clear hbb5 hr5
  rw [ld_48]
  generalize hx : v % 256 = x at *
  have HX := hide hx; clear hx HLD
  have hx0 : 0 ≤ x ∧ x < 256 := by rw [← unhide HX]; omega
  have a1 : bits .and .u64 v 255 = x := by rw [← unhide HX]; exact and_mask v 8 (by omega) 255 256 (by decide) (by decide) h0 h1
  have hA : wsV 1 126 x = (if x < 128 then x else x - 256) % 18446744073709551616 := by rfl
  by_cases hs : x < 128
  · have eA : wsV 1 126 x = x := by rw [hA, if_pos hs]; omega
    rw [eA]
    have a2 : bits .and .u64 x 255 = x := by rw [and_mask x 8 (by omega) 255 256 (by decide) (by decide) hx0.1 (by omega)]; omega
    have t1 : (x / 128 == 1) = false := by simp; omega
    clear eA hA hs hx0
    go_wp2_with fail
    refine (sure_any _ ((unhide HG).below (unhide HB5))).mono ?_
    rintro e w6 ⟨rfl, hb6⟩
    have HB6 := hide (Below.on (unhide HB5) hb6); clear hb6
    go_wp2
    go_ret
    exact ⟨rfl, unhide HB6⟩
  · obtain ⟨A, eA⟩ : ∃ A, A = wsV 1 126 x := ⟨_, rfl⟩
    rw [← eA]
    rw [hA, if_neg hs] at eA
    have a2 : bits .and .u64 A 255 = x := by rw [and_mask A 8 (by omega) 255 256 (by decide) (by decide) (by omega) (by omega)]; omega
    have t1 : (x / 128 == 1) = true := by simp; omega
    have t2 : (A == x) = false := by simp; omega
    clear eA hA hs hx0
    go_wp2_with fail
    refine (sure_any _ ((unhide HG).below (unhide HB5))).mono ?_
    rintro e w6 ⟨rfl, hb6⟩
    have HB6 := hide (Below.on (unhide HB5) hb6); clear hb6
    go_wp2
    go_ret
    exact ⟨rfl, unhide HB6⟩


set_option maxRecDepth 100000 in
set_option maxHeartbeats 4000000 in
theorem signs_3 (n v : Int) (h0 : 0 ≤ v) (h1 : v < 18446744073709551616) (hk : (IntKind.u64.wrap n).tmod 5 = 3) (w : World) (hG : Gl w) :
    Calls Tryz.prog 8 #[.int .i64 n, .int .u64 v] w fun e w' => e = .returned (.bool true) ∧ Below w.heap.size w w' := by
  have HG := hide hG; clear hG
  go_enter Tryz.func8, Tryz.ntmps8
  go_wp2_with fail
  have hb0 : Below w.heap.size w ((w.alloc (.cells #[.int .i64 44, .int .i64 8, .int .i64 58, .int .i64 46, .int .i64 16, .int .i64 59, .int .i64 48, .int .i64 8, .int .i64 60, .int .i64 50, .int .i64 16, .int .i64 61, .int .i64 52, .int .i64 32, .int .i64 62] 102)).alloc (.cells #[.int .i64 50, .int .i64 16, .int .i64 61] 102)) := ((Below.refl _ _).alloc (Nat.le_refl _) _).alloc (by simp) _
  have hr0 : ((w.alloc (.cells #[.int .i64 44, .int .i64 8, .int .i64 58, .int .i64 46, .int .i64 16, .int .i64 59, .int .i64 48, .int .i64 8, .int .i64 60, .int .i64 50, .int .i64 16, .int .i64 61, .int .i64 52, .int .i64 32, .int .i64 62] 102)).alloc (.cells #[.int .i64 50, .int .i64 16, .int .i64 61] 102)).heap[w.heap.size + 1]? = some (.cells #[.int .i64 50, .int .i64 16, .int .i64 61] 102 (0, 0)) := by
    have := heap_alloc_new (w.alloc (.cells #[.int .i64 44, .int .i64 8, .int .i64 58, .int .i64 46, .int .i64 16, .int .i64 59, .int .i64 48, .int .i64 8, .int .i64 60, .int .i64 50, .int .i64 16, .int .i64 61, .int .i64 52, .int .i64 32, .int .i64 62] 102)) (.cells #[.int .i64 50, .int .i64 16, .int .i64 61] 102); simpa using this
  have HB0 := hide hb0; have HR0 := hide hr0; clear hb0 hr0 hk
  generalize ((w.alloc (.cells #[.int .i64 44, .int .i64 8, .int .i64 58, .int .i64 46, .int .i64 16, .int .i64 59, .int .i64 48, .int .i64 8, .int .i64 60, .int .i64 50, .int .i64 16, .int .i64 61, .int .i64 52, .int .i64 32, .int .i64 62] 102)).alloc (.cells #[.int .i64 50, .int .i64 16, .int .i64 61] 102)) = w1 at *
  refine (new_yes 1 1 _ (by omega) (by omega) (by omega)).mono ?_
  rintro e w2 ⟨rfl, hm2, hb2⟩
  simp only [Int.toNat_one, Nat.one_mul] at hm2
  have hr2 := (hb2.block _ (Array.getElem?_eq_some_iff.1 (unhide HR0)).1).trans (unhide HR0)
  have hlt := (Array.getElem?_eq_some_iff.1 (unhide HR0)).1
  obtain ⟨c0, c1, c2⟩ := ebox hr2
  have lt2 := (Array.getElem?_eq_some_iff.1 hr2).1
  have HB2 := hide (Below.on (unhide HB0) hb2); have HM2 := hide hm2; have HR2 := hide hr2
  have HLT := hide hlt
  have HBW := hide (unhide HB0).size
  clear hm2 hb2 hr2 HB0 HR0 hlt
  go_wp2_with fail
  refine (store9_yes (unhide HM2) 61 (by omega) (by decide) 100 4 v ⟨by omega, by omega⟩ ⟨by omega, by omega⟩ ⟨h0, h1⟩ (by decide) ((unhide HG).below (unhide HB2)).1).mono ?_
  rintro e w3 ⟨rfl, hm3, ho3⟩
  have hb3 := (unhide HB2).trans (ho3.below (unhide HB2).size (by have := unhide HBW; omega) (by have := unhide HBW; omega))
  have hr3 := (ho3.block (w.heap.size + 1) lt2 (by have := unhide HLT; omega) (by have := unhide HLT; omega)).trans (unhide HR2)
  clear ho3 c0 c1 c2 lt2 HM2 HR2 HB2
  obtain ⟨c0, c1, c2⟩ := ebox hr3
  have lt3 := (Array.getElem?_eq_some_iff.1 hr3).1
  have hld : ldZ (stZ (List.replicate 4096 0) (100 % 4294967296 + 4 : Int).toNat (ab 61).toNat v) 104 2 = v % 65536 :=
    ldZ_num 2 _ 104 v (fun i hi => by rw [show (100 % 4294967296 + 4 : Int).toNat = 104 by decide, show (ab 61).toNat = 2 by decide, stZ_get 2 _ _ _ _ (by rw [List.length_replicate]; omega), if_pos (by omega), show 104 + i - 104 = i from by omega])
  have HM3 := hide hm3; have HB3 := hide hb3; have HR3 := hide hr3; have HLD := hide hld
  clear hm3 hb3 hr3 hld
  go_wp2_with fail
  refine (load9_yes (unhide HM3) 50 (by omega) (by decide) 104 0 ⟨by omega, by omega⟩ ⟨by omega, by omega⟩ (by decide) ((unhide HG).below (unhide HB3)).1).mono ?_
  rintro e w4 ⟨rfl, hb4⟩
  rw [show (104 % 4294967296 + 0 : Int).toNat = 104 by decide, show (ab 50).toNat = 2 by decide, unhide HLD]
  have hm4 := (unhide HM3).below (Nat.le_refl _) hb4
  have hr4 := (hb4.block _ lt3).trans (unhide HR3)
  have hbb4 := Below.on (unhide HB3) hb4
  clear c0 c1 c2 lt3 HM3 HR3 HB3 hb4
  obtain ⟨c0, c1, c2⟩ := ebox hr4
  have lt4 := (Array.getElem?_eq_some_iff.1 hr4).1
  have HM4 := hide hm4; have HB4 := hide hbb4; have HR4 := hide hr4
  clear hm4 hbb4 hr4
  go_wp2_with fail
  refine (load9_yes (unhide HM4) 51 (by omega) (by decide) 0 104 ⟨by omega, by omega⟩ ⟨by omega, by omega⟩ (by decide) ((unhide HG).below (unhide HB4)).1).mono ?_
  rintro e w5 ⟨rfl, hb5⟩
  rw [show (0 % 4294967296 + 104 : Int).toNat = 104 by decide, show (ab 51).toNat = 2 by decide, unhide HLD, ld_51]
  have hr5 := (hb5.block _ lt4).trans (unhide HR4)
  have hbb5 := Below.on (unhide HB4) hb5
  clear c0 c1 c2 lt4 HM4 HR4 HB4 hb5
  obtain ⟨c0, c1, c2⟩ := ebox hr5
  have lt5 := (Array.getElem?_eq_some_iff.1 hr5).1
  have HB5 := hide hbb5
  clear hbb5 hr5
  rw [ld_50]
  generalize hx : v % 65536 = x at *
  have HX := hide hx; clear hx HLD
  have hx0 : 0 ≤ x ∧ x < 65536 := by rw [← unhide HX]; omega
  have a1 : bits .and .u64 v 65535 = x := by rw [← unhide HX]; exact and_mask v 16 (by omega) 65535 65536 (by decide) (by decide) h0 h1
  have hA : wsV 2 126 x = (if x < 32768 then x else x - 65536) % 18446744073709551616 := by rfl
  by_cases hs : x < 32768
  · have eA : wsV 2 126 x = x := by rw [hA, if_pos hs]; omega
    rw [eA]
    have a2 : bits .and .u64 x 65535 = x := by rw [and_mask x 16 (by omega) 65535 65536 (by decide) (by decide) hx0.1 (by omega)]; omega
    have t1 : (x / 32768 == 1) = false := by simp; omega
    clear eA hA hs hx0
    go_wp2_with fail
    refine (sure_any _ ((unhide HG).below (unhide HB5))).mono ?_
    rintro e w6 ⟨rfl, hb6⟩
    have HB6 := hide (Below.on (unhide HB5) hb6); clear hb6
    go_wp2
    go_ret
    exact ⟨rfl, unhide HB6⟩
  · obtain ⟨A, eA⟩ : ∃ A, A = wsV 2 126 x := ⟨_, rfl⟩
    rw [← eA]
    rw [hA, if_neg hs] at eA
    have a2 : bits .and .u64 A 65535 = x := by rw [and_mask A 16 (by omega) 65535 65536 (by decide) (by decide) (by omega) (by omega)]; omega
    have t1 : (x / 32768 == 1) = true := by simp; omega
    have t2 : (A == x) = false := by simp; omega
    clear eA hA hs hx0
    go_wp2_with fail
    refine (sure_any _ ((unhide HG).below (unhide HB5))).mono ?_
    rintro e w6 ⟨rfl, hb6⟩
    have HB6 := hide (Below.on (unhide HB5) hb6); clear hb6
    go_wp2
    go_ret
    exact ⟨rfl, unhide HB6⟩


set_option maxRecDepth 100000 in
set_option maxHeartbeats 4000000 in
theorem signs_4 (n v : Int) (h0 : 0 ≤ v) (h1 : v < 18446744073709551616) (hk : (IntKind.u64.wrap n).tmod 5 = 4) (w : World) (hG : Gl w) :
    Calls Tryz.prog 8 #[.int .i64 n, .int .u64 v] w fun e w' => e = .returned (.bool true) ∧ Below w.heap.size w w' := by
  have HG := hide hG; clear hG
  go_enter Tryz.func8, Tryz.ntmps8
  go_wp2_with fail
  have hb0 : Below w.heap.size w ((w.alloc (.cells #[.int .i64 44, .int .i64 8, .int .i64 58, .int .i64 46, .int .i64 16, .int .i64 59, .int .i64 48, .int .i64 8, .int .i64 60, .int .i64 50, .int .i64 16, .int .i64 61, .int .i64 52, .int .i64 32, .int .i64 62] 102)).alloc (.cells #[.int .i64 52, .int .i64 32, .int .i64 62] 102)) := ((Below.refl _ _).alloc (Nat.le_refl _) _).alloc (by simp) _
  have hr0 : ((w.alloc (.cells #[.int .i64 44, .int .i64 8, .int .i64 58, .int .i64 46, .int .i64 16, .int .i64 59, .int .i64 48, .int .i64 8, .int .i64 60, .int .i64 50, .int .i64 16, .int .i64 61, .int .i64 52, .int .i64 32, .int .i64 62] 102)).alloc (.cells #[.int .i64 52, .int .i64 32, .int .i64 62] 102)).heap[w.heap.size + 1]? = some (.cells #[.int .i64 52, .int .i64 32, .int .i64 62] 102 (0, 0)) := by
    have := heap_alloc_new (w.alloc (.cells #[.int .i64 44, .int .i64 8, .int .i64 58, .int .i64 46, .int .i64 16, .int .i64 59, .int .i64 48, .int .i64 8, .int .i64 60, .int .i64 50, .int .i64 16, .int .i64 61, .int .i64 52, .int .i64 32, .int .i64 62] 102)) (.cells #[.int .i64 52, .int .i64 32, .int .i64 62] 102); simpa using this
  have HB0 := hide hb0; have HR0 := hide hr0; clear hb0 hr0 hk
  generalize ((w.alloc (.cells #[.int .i64 44, .int .i64 8, .int .i64 58, .int .i64 46, .int .i64 16, .int .i64 59, .int .i64 48, .int .i64 8, .int .i64 60, .int .i64 50, .int .i64 16, .int .i64 61, .int .i64 52, .int .i64 32, .int .i64 62] 102)).alloc (.cells #[.int .i64 52, .int .i64 32, .int .i64 62] 102)) = w1 at *
  refine (new_yes 1 1 _ (by omega) (by omega) (by omega)).mono ?_
  rintro e w2 ⟨rfl, hm2, hb2⟩
  simp only [Int.toNat_one, Nat.one_mul] at hm2
  have hr2 := (hb2.block _ (Array.getElem?_eq_some_iff.1 (unhide HR0)).1).trans (unhide HR0)
  have hlt := (Array.getElem?_eq_some_iff.1 (unhide HR0)).1
  obtain ⟨c0, c1, c2⟩ := ebox hr2
  have lt2 := (Array.getElem?_eq_some_iff.1 hr2).1
  have HB2 := hide (Below.on (unhide HB0) hb2); have HM2 := hide hm2; have HR2 := hide hr2
  have HLT := hide hlt
  have HBW := hide (unhide HB0).size
  clear hm2 hb2 hr2 HB0 HR0 hlt
  go_wp2_with fail
  refine (store9_yes (unhide HM2) 62 (by omega) (by decide) 100 4 v ⟨by omega, by omega⟩ ⟨by omega, by omega⟩ ⟨h0, h1⟩ (by decide) ((unhide HG).below (unhide HB2)).1).mono ?_
  rintro e w3 ⟨rfl, hm3, ho3⟩
  have hb3 := (unhide HB2).trans (ho3.below (unhide HB2).size (by have := unhide HBW; omega) (by have := unhide HBW; omega))
  have hr3 := (ho3.block (w.heap.size + 1) lt2 (by have := unhide HLT; omega) (by have := unhide HLT; omega)).trans (unhide HR2)
  clear ho3 c0 c1 c2 lt2 HM2 HR2 HB2
  obtain ⟨c0, c1, c2⟩ := ebox hr3
  have lt3 := (Array.getElem?_eq_some_iff.1 hr3).1
  have hld : ldZ (stZ (List.replicate 4096 0) (100 % 4294967296 + 4 : Int).toNat (ab 62).toNat v) 104 4 = v % 4294967296 :=
    ldZ_num 4 _ 104 v (fun i hi => by rw [show (100 % 4294967296 + 4 : Int).toNat = 104 by decide, show (ab 62).toNat = 4 by decide, stZ_get 4 _ _ _ _ (by rw [List.length_replicate]; omega), if_pos (by omega), show 104 + i - 104 = i from by omega])
  have HM3 := hide hm3; have HB3 := hide hb3; have HR3 := hide hr3; have HLD := hide hld
  clear hm3 hb3 hr3 hld
  go_wp2_with fail
  refine (load9_yes (unhide HM3) 52 (by omega) (by decide) 104 0 ⟨by omega, by omega⟩ ⟨by omega, by omega⟩ (by decide) ((unhide HG).below (unhide HB3)).1).mono ?_
  rintro e w4 ⟨rfl, hb4⟩
  rw [show (104 % 4294967296 + 0 : Int).toNat = 104 by decide, show (ab 52).toNat = 4 by decide, unhide HLD]
  have hm4 := (unhide HM3).below (Nat.le_refl _) hb4
  have hr4 := (hb4.block _ lt3).trans (unhide HR3)
  have hbb4 := Below.on (unhide HB3) hb4
  clear c0 c1 c2 lt3 HM3 HR3 HB3 hb4
  obtain ⟨c0, c1, c2⟩ := ebox hr4
  have lt4 := (Array.getElem?_eq_some_iff.1 hr4).1
  have HM4 := hide hm4; have HB4 := hide hbb4; have HR4 := hide hr4
  clear hm4 hbb4 hr4
  go_wp2_with fail
  refine (load9_yes (unhide HM4) 53 (by omega) (by decide) 0 104 ⟨by omega, by omega⟩ ⟨by omega, by omega⟩ (by decide) ((unhide HG).below (unhide HB4)).1).mono ?_
  rintro e w5 ⟨rfl, hb5⟩
  rw [show (0 % 4294967296 + 104 : Int).toNat = 104 by decide, show (ab 53).toNat = 4 by decide, unhide HLD, ld_53]
  have hr5 := (hb5.block _ lt4).trans (unhide HR4)
  have hbb5 := Below.on (unhide HB4) hb5
  clear c0 c1 c2 lt4 HM4 HR4 HB4 hb5
  obtain ⟨c0, c1, c2⟩ := ebox hr5
  have lt5 := (Array.getElem?_eq_some_iff.1 hr5).1
  have HB5 := hide hbb5
  clear hbb5 hr5
  rw [ld_52]
  generalize hx : v % 4294967296 = x at *
  have HX := hide hx; clear hx HLD
  have hx0 : 0 ≤ x ∧ x < 4294967296 := by rw [← unhide HX]; omega
  have a1 : bits .and .u64 v 4294967295 = x := by rw [← unhide HX]; exact and_mask v 32 (by omega) 4294967295 4294967296 (by decide) (by decide) h0 h1
  have hA : wsV 4 126 x = (if x < 2147483648 then x else x - 4294967296) % 18446744073709551616 := by rfl
  by_cases hs : x < 2147483648
  · have eA : wsV 4 126 x = x := by rw [hA, if_pos hs]; omega
    rw [eA]
    have a2 : bits .and .u64 x 4294967295 = x := by rw [and_mask x 32 (by omega) 4294967295 4294967296 (by decide) (by decide) hx0.1 (by omega)]; omega
    have t1 : (x / 2147483648 == 1) = false := by simp; omega
    clear eA hA hs hx0
    go_wp2_with fail
    refine (sure_any _ ((unhide HG).below (unhide HB5))).mono ?_
    rintro e w6 ⟨rfl, hb6⟩
    have HB6 := hide (Below.on (unhide HB5) hb6); clear hb6
    go_wp2
    go_ret
    exact ⟨rfl, unhide HB6⟩
  · obtain ⟨A, eA⟩ : ∃ A, A = wsV 4 126 x := ⟨_, rfl⟩
    rw [← eA]
    rw [hA, if_neg hs] at eA
    have a2 : bits .and .u64 A 4294967295 = x := by rw [and_mask A 32 (by omega) 4294967295 4294967296 (by decide) (by decide) (by omega) (by omega)]; omega
    have t1 : (x / 2147483648 == 1) = true := by simp; omega
    have t2 : (A == x) = false := by simp; omega
    clear eA hA hs hx0
    go_wp2_with fail
    refine (sure_any _ ((unhide HG).below (unhide HB5))).mono ?_
    rintro e w6 ⟨rfl, hb6⟩
    have HB6 := hide (Below.on (unhide HB5) hb6); clear hb6
    go_wp2
    go_ret
    exact ⟨rfl, unhide HB6⟩

end Go.Proofs.YtcljcnaglkbjcaaGreatDoor
