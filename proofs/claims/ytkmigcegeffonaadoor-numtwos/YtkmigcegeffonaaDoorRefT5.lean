/- The document's Two: and, bit by bit. -/
import Derived.Test.YtkmigcegeffonaaDoorRefH
import Derived.Test.YtkmigcegeffonaaDoorRefM0
import Derived.Test.YtkmigcegeffonaaDoorRefMm
namespace Go.Proofs.YtkmigcegeffonaaDoor
open Go.RowKit Num
set_option linter.unusedVariables false

theorem bits_and_32 (X Y : Int) (bx0 : 0 ≤ X) (bx1 : X < pw 32) (by0 : 0 ≤ Y) (by1 : Y < pw 32) : ((Num.mk ((List.range 32).map fun k => bt X k && bt Y k) : Nat) : Int) = lo 32 (arV 113 X Y) := by
  obtain ⟨xn, rfl⟩ := Int.eq_ofNat_of_zero_le bx0
  obtain ⟨yn, rfl⟩ := Int.eq_ofNat_of_zero_le by0
  have hxn : xn < 2 ^ 32 := by rw [pw_32] at bx1; omega
  have hyn : yn < 2 ^ 32 := by rw [pw_32] at by1; omega
  have hlt : xn &&& yn < 2 ^ 32 := Nat.and_lt_two_pow _ hyn
  rw [mk_eq 32 _ (xn &&& yn) hlt (fun k hk => by rw [bt_test, bt_test, Nat.testBit_and])]
  rw [show arV 113 (xn : Int) (yn : Int) = ((xn &&& yn : Nat) : Int) by simp [arV]]
  rw [lo_nat 32 (.inl rfl), Nat.mod_eq_of_lt hlt]
set_option maxHeartbeats 3200000 in
set_option maxRecDepth 4000 in
theorem refTwo_and_32 (op x y : Int) (hN : Named op ⟨#[97, 110, 100]⟩ 32) (w : World) (h0 : 0 ≤ x) (h1 : x < 18446744073709551616) (h2 : 0 ≤ y) (h3 : y < 18446744073709551616) :
    Calls Tryd.prog 14 #[.int .u8 op, .int .u64 x, .int .u64 y] w fun e w' => e = .returned (.tuple #[.int .u64 (lo 32 (arV 113 (lo 32 x) (lo 32 y))), .int .i64 (0), .bool true]) ∧ Below w.heap.size w w' := by
  have hN2 : ∀ w, Calls Tryd.prog 25 #[.int .u8 op] w fun e w' => e = .returned (.tuple #[.string ⟨#[97, 110, 100]⟩, .int .i64 32]) ∧ Below w.heap.size w w' := fun w => hN w
  have hlx : ∀ wx, Calls Tryd.prog 27 #[.int .u64 x, .int .i64 32] wx fun e w' => e = .returned (.int .u64 (lo 32 x)) ∧ wx = w' := fun wx => low_any 32 (.inl rfl) x wx h0 h1
  have hly : ∀ wx, Calls Tryd.prog 27 #[.int .u64 y, .int .i64 32] wx fun e w' => e = .returned (.int .u64 (lo 32 y)) ∧ wx = w' := fun wx => low_any 32 (.inl rfl) y wx h2 h3
  have bx := lo_lt 32 (.inl rfl) x; have by' := lo_lt 32 (.inl rfl) y
  generalize lo 32 x = X at *
  generalize lo 32 y = Y at *
  obtain ⟨bx0, bx1⟩ := bx
  obtain ⟨by0, by1⟩ := by'
  have hh : ∀ wx, Calls Tryd.prog 34 #[.string ⟨#[97, 110, 100]⟩, .int .u64 X, .int .u64 Y, .int .i64 32] wx fun e w' => e = .returned (.tuple #[.bool false, .bool false]) ∧ wx = w' := fun wx => holds_and 32 X Y wx
  have HH := hide hh; clear hh
  have hbx : ∀ (k : Nat) wx, k < 64 → Calls Tryd.prog 28 #[.int .u64 X, .int .i64 k] wx fun e w' => e = .returned (.bool (bt X k)) ∧ wx = w' := fun k wx hk => bit_any X k wx bx0 (by rw [pw_32] at bx1; omega) hk
  have hby : ∀ (k : Nat) wx, k < 64 → Calls Tryd.prog 28 #[.int .u64 Y, .int .i64 k] wx fun e w' => e = .returned (.bool (bt Y k)) ∧ wx = w' := fun k wx hk => bit_any Y k wx by0 (by rw [pw_32] at by1; omega) hk
  have hr := bits_and_32 X Y bx0 bx1 by0 by1
  generalize lo 32 (arV 113 X Y) = R at *
  have HBX := hide hbx; have HBY := hide hby; have HR := hide hr; clear hbx hby hr
  generalize hf : (fun k => bt X k && bt Y k) = f at *
  have HF := hide hf; clear hf
  have HN := hide hN2; have HA := hide alone_and; have HX := hide hlx; have HY := hide hly; clear hN hN2 hlx hly
  rw [pw_32] at bx1 by1
  go_enter Tryd.func14, Tryd.ntmps14
  go_wp2_with fail
  refine (unhide HN _).mono ?_
  rintro e w1 ⟨rfl, hb1⟩
  have HB := hide hb1; clear hb1
  go_wp2_with fail
  refine (unhide HA _).mono ?_
  rintro e w2 ⟨rfl, rfl⟩
  go_wp2_with fail
  refine (unhide HX _).mono ?_
  rintro e w2 ⟨rfl, rfl⟩
  go_wp2_with fail
  refine (unhide HY _).mono ?_
  rintro e w2 ⟨rfl, rfl⟩
  go_wp2_with fail
  refine (unhide HH _).mono ?_
  rintro e w2 ⟨rfl, rfl⟩
  obtain ⟨i0, hi, hz0, hz1, hz2⟩ := info_parts infoB
  go_wp2_with fail
  go_loopw [13, 14] (fun s k wr => ∃ (j : Nat), k = .int .i64 (j : Int) ∧ j ≤ 32 ∧ wr.ownsRow w1.heap.size 4 1 s j (bRow f j) ∧ Below w1.heap.size w1 wr ∧ w1.heap.size ≤ wr.heap.size) (fun _ k _ => 32 - (intOf k).toNat)
  case atStart => exact ⟨0, rfl, by omega, World.ownsRow_nil _ _ _ _, Below.refl _ _, Nat.le_refl _⟩
  case round =>
    obtain ⟨j, rfl, hj, hown2, hbel2, hlt2⟩ := hrel
    by_cases hj2 : j = 32
    · subst hj2
      obtain ⟨g, cap, rfl, hl, hcap, hcell⟩ := own_b (bs := (List.range 32).map f) hown2 (by omega)
      have hmd := made_any g 32 cap _ wr hl (by omega) hcap hcell
      rw [unhide HR] at hmd
      have HM := hide hmd; have HBe := hide (Below.on (unhide HB) hbel2)
      clear hown2 hbel2 hlt2 hcell hl hmd
      go_wp2_with fail
      refine (unhide HM).mono ?_
      rintro e w2 ⟨rfl, rfl⟩
      go_wp2
      go_ret3
      exact ⟨by kernel_rfl, unhide HBe⟩
    · have HO := hide hown2; have HBe := hide hbel2; have HLt := hide hlt2
      have hj3 : j < 32 := by omega
      clear hown2 hbel2 hlt2 hj hj2
      go_wp2_with fail
      refine (unhide HBX j _ (by omega)).mono ?_
      rintro e w2 ⟨rfl, rfl⟩
      go_wp2_with fail
      refine (unhide HBY j _ (by omega)).mono ?_
      rintro e w2 ⟨rfl, rfl⟩
      cases d1 : bt X j <;> cases d2 : bt Y j
      · have D1 := hide d1; have D2 := hide d2; clear d1 d2
        go_wp2_with (at_builtin; refine wpList_append_own _ rfl (.tmp 83) (.tmp 111) 66 rfl w1.heap.size 4 i0 (.bool false) 1 1 Tryd.underlying66 hi hz0 hz1 hz2 rfl (by decide) u13 j (bRow f j) rfl ((unhide HO).alloc _) ⟨wr.heap.size, 0, none⟩ 1 1 [.bool false] rfl rfl ?c1 ?c2 ?c3 ?c4 ?c5 ?_)
        case c1 => exact cell_one_new _ _ _
        case c2 => first | rfl | (intro u hu; simp at hu; subst hu; rfl)
        case c3 => unfold maxLen; omega
        case c4 => omega
        case c5 => have := unhide HLt; simp; omega
        intro v' w3 hown3 hgrow _
        have hrel2 := rel_b w1.heap.size w1 wr w3 u13 v' f j false (by rw [← unhide HF]; simp only [unhide D1, unhide D2]; rfl) rfl (unhide HBe) (unhide HLt) (unhide HO) hown3 hgrow
        have HR2 := hide hrel2
        clear hown3 hgrow hrel2 HO
        go_wp2
        go_roundw
        case rel => exact ⟨j + 1, by simp, by omega, (unhide HR2).1, (unhide HR2).2.1, (unhide HR2).2.2⟩
        case measure => simp [intOf]; omega
      · have D1 := hide d1; have D2 := hide d2; clear d1 d2
        go_wp2_with (at_builtin; refine wpList_append_own _ rfl (.tmp 83) (.tmp 111) 66 rfl w1.heap.size 4 i0 (.bool false) 1 1 Tryd.underlying66 hi hz0 hz1 hz2 rfl (by decide) u13 j (bRow f j) rfl ((unhide HO).alloc _) ⟨wr.heap.size, 0, none⟩ 1 1 [.bool false] rfl rfl ?c1 ?c2 ?c3 ?c4 ?c5 ?_)
        case c1 => exact cell_one_new _ _ _
        case c2 => first | rfl | (intro u hu; simp at hu; subst hu; rfl)
        case c3 => unfold maxLen; omega
        case c4 => omega
        case c5 => have := unhide HLt; simp; omega
        intro v' w3 hown3 hgrow _
        have hrel2 := rel_b w1.heap.size w1 wr w3 u13 v' f j false (by rw [← unhide HF]; simp only [unhide D1, unhide D2]; rfl) rfl (unhide HBe) (unhide HLt) (unhide HO) hown3 hgrow
        have HR2 := hide hrel2
        clear hown3 hgrow hrel2 HO
        go_wp2
        go_roundw
        case rel => exact ⟨j + 1, by simp, by omega, (unhide HR2).1, (unhide HR2).2.1, (unhide HR2).2.2⟩
        case measure => simp [intOf]; omega
      · have D1 := hide d1; have D2 := hide d2; clear d1 d2
        go_wp2_with (at_builtin; refine wpList_append_own _ rfl (.tmp 83) (.tmp 111) 66 rfl w1.heap.size 4 i0 (.bool false) 1 1 Tryd.underlying66 hi hz0 hz1 hz2 rfl (by decide) u13 j (bRow f j) rfl ((unhide HO).alloc _) ⟨wr.heap.size, 0, none⟩ 1 1 [.bool false] rfl rfl ?c1 ?c2 ?c3 ?c4 ?c5 ?_)
        case c1 => exact cell_one_new _ _ _
        case c2 => first | rfl | (intro u hu; simp at hu; subst hu; rfl)
        case c3 => unfold maxLen; omega
        case c4 => omega
        case c5 => have := unhide HLt; simp; omega
        intro v' w3 hown3 hgrow _
        have hrel2 := rel_b w1.heap.size w1 wr w3 u13 v' f j false (by rw [← unhide HF]; simp only [unhide D1, unhide D2]; rfl) rfl (unhide HBe) (unhide HLt) (unhide HO) hown3 hgrow
        have HR2 := hide hrel2
        clear hown3 hgrow hrel2 HO
        go_wp2
        go_roundw
        case rel => exact ⟨j + 1, by simp, by omega, (unhide HR2).1, (unhide HR2).2.1, (unhide HR2).2.2⟩
        case measure => simp [intOf]; omega
      · have D1 := hide d1; have D2 := hide d2; clear d1 d2
        go_wp2_with (at_builtin; refine wpList_append_own _ rfl (.tmp 83) (.tmp 111) 66 rfl w1.heap.size 4 i0 (.bool false) 1 1 Tryd.underlying66 hi hz0 hz1 hz2 rfl (by decide) u13 j (bRow f j) rfl ((unhide HO).alloc _) ⟨wr.heap.size, 0, none⟩ 1 1 [.bool true] rfl rfl ?c1 ?c2 ?c3 ?c4 ?c5 ?_)
        case c1 => exact cell_one_new _ _ _
        case c2 => first | rfl | (intro u hu; simp at hu; subst hu; rfl)
        case c3 => unfold maxLen; omega
        case c4 => omega
        case c5 => have := unhide HLt; simp; omega
        intro v' w3 hown3 hgrow _
        have hrel2 := rel_b w1.heap.size w1 wr w3 u13 v' f j true (by rw [← unhide HF]; simp only [unhide D1, unhide D2]; rfl) rfl (unhide HBe) (unhide HLt) (unhide HO) hown3 hgrow
        have HR2 := hide hrel2
        clear hown3 hgrow hrel2 HO
        go_wp2
        go_roundw
        case rel => exact ⟨j + 1, by simp, by omega, (unhide HR2).1, (unhide HR2).2.1, (unhide HR2).2.2⟩
        case measure => simp [intOf]; omega

theorem bits_and_64 (X Y : Int) (bx0 : 0 ≤ X) (bx1 : X < pw 64) (by0 : 0 ≤ Y) (by1 : Y < pw 64) : ((Num.mk ((List.range 64).map fun k => bt X k && bt Y k) : Nat) : Int) = lo 64 (arV 113 X Y) := by
  obtain ⟨xn, rfl⟩ := Int.eq_ofNat_of_zero_le bx0
  obtain ⟨yn, rfl⟩ := Int.eq_ofNat_of_zero_le by0
  have hxn : xn < 2 ^ 64 := by rw [pw_64] at bx1; omega
  have hyn : yn < 2 ^ 64 := by rw [pw_64] at by1; omega
  have hlt : xn &&& yn < 2 ^ 64 := Nat.and_lt_two_pow _ hyn
  rw [mk_eq 64 _ (xn &&& yn) hlt (fun k hk => by rw [bt_test, bt_test, Nat.testBit_and])]
  rw [show arV 113 (xn : Int) (yn : Int) = ((xn &&& yn : Nat) : Int) by simp [arV]]
  rw [lo_nat 64 (.inr rfl), Nat.mod_eq_of_lt hlt]
set_option maxHeartbeats 3200000 in
set_option maxRecDepth 4000 in
theorem refTwo_and_64 (op x y : Int) (hN : Named op ⟨#[97, 110, 100]⟩ 64) (w : World) (h0 : 0 ≤ x) (h1 : x < 18446744073709551616) (h2 : 0 ≤ y) (h3 : y < 18446744073709551616) :
    Calls Tryd.prog 14 #[.int .u8 op, .int .u64 x, .int .u64 y] w fun e w' => e = .returned (.tuple #[.int .u64 (lo 64 (arV 113 (lo 64 x) (lo 64 y))), .int .i64 (0), .bool true]) ∧ Below w.heap.size w w' := by
  have hN2 : ∀ w, Calls Tryd.prog 25 #[.int .u8 op] w fun e w' => e = .returned (.tuple #[.string ⟨#[97, 110, 100]⟩, .int .i64 64]) ∧ Below w.heap.size w w' := fun w => hN w
  have hlx : ∀ wx, Calls Tryd.prog 27 #[.int .u64 x, .int .i64 64] wx fun e w' => e = .returned (.int .u64 (lo 64 x)) ∧ wx = w' := fun wx => low_any 64 (.inr rfl) x wx h0 h1
  have hly : ∀ wx, Calls Tryd.prog 27 #[.int .u64 y, .int .i64 64] wx fun e w' => e = .returned (.int .u64 (lo 64 y)) ∧ wx = w' := fun wx => low_any 64 (.inr rfl) y wx h2 h3
  have bx := lo_lt 64 (.inr rfl) x; have by' := lo_lt 64 (.inr rfl) y
  generalize lo 64 x = X at *
  generalize lo 64 y = Y at *
  obtain ⟨bx0, bx1⟩ := bx
  obtain ⟨by0, by1⟩ := by'
  have hh : ∀ wx, Calls Tryd.prog 34 #[.string ⟨#[97, 110, 100]⟩, .int .u64 X, .int .u64 Y, .int .i64 64] wx fun e w' => e = .returned (.tuple #[.bool false, .bool false]) ∧ wx = w' := fun wx => holds_and 64 X Y wx
  have HH := hide hh; clear hh
  have hbx : ∀ (k : Nat) wx, k < 64 → Calls Tryd.prog 28 #[.int .u64 X, .int .i64 k] wx fun e w' => e = .returned (.bool (bt X k)) ∧ wx = w' := fun k wx hk => bit_any X k wx bx0 (by rw [pw_64] at bx1; omega) hk
  have hby : ∀ (k : Nat) wx, k < 64 → Calls Tryd.prog 28 #[.int .u64 Y, .int .i64 k] wx fun e w' => e = .returned (.bool (bt Y k)) ∧ wx = w' := fun k wx hk => bit_any Y k wx by0 (by rw [pw_64] at by1; omega) hk
  have hr := bits_and_64 X Y bx0 bx1 by0 by1
  generalize lo 64 (arV 113 X Y) = R at *
  have HBX := hide hbx; have HBY := hide hby; have HR := hide hr; clear hbx hby hr
  generalize hf : (fun k => bt X k && bt Y k) = f at *
  have HF := hide hf; clear hf
  have HN := hide hN2; have HA := hide alone_and; have HX := hide hlx; have HY := hide hly; clear hN hN2 hlx hly
  rw [pw_64] at bx1 by1
  go_enter Tryd.func14, Tryd.ntmps14
  go_wp2_with fail
  refine (unhide HN _).mono ?_
  rintro e w1 ⟨rfl, hb1⟩
  have HB := hide hb1; clear hb1
  go_wp2_with fail
  refine (unhide HA _).mono ?_
  rintro e w2 ⟨rfl, rfl⟩
  go_wp2_with fail
  refine (unhide HX _).mono ?_
  rintro e w2 ⟨rfl, rfl⟩
  go_wp2_with fail
  refine (unhide HY _).mono ?_
  rintro e w2 ⟨rfl, rfl⟩
  go_wp2_with fail
  refine (unhide HH _).mono ?_
  rintro e w2 ⟨rfl, rfl⟩
  obtain ⟨i0, hi, hz0, hz1, hz2⟩ := info_parts infoB
  go_wp2_with fail
  go_loopw [13, 14] (fun s k wr => ∃ (j : Nat), k = .int .i64 (j : Int) ∧ j ≤ 64 ∧ wr.ownsRow w1.heap.size 4 1 s j (bRow f j) ∧ Below w1.heap.size w1 wr ∧ w1.heap.size ≤ wr.heap.size) (fun _ k _ => 64 - (intOf k).toNat)
  case atStart => exact ⟨0, rfl, by omega, World.ownsRow_nil _ _ _ _, Below.refl _ _, Nat.le_refl _⟩
  case round =>
    obtain ⟨j, rfl, hj, hown2, hbel2, hlt2⟩ := hrel
    by_cases hj2 : j = 64
    · subst hj2
      obtain ⟨g, cap, rfl, hl, hcap, hcell⟩ := own_b (bs := (List.range 64).map f) hown2 (by omega)
      have hmd := made_any g 64 cap _ wr hl (by omega) hcap hcell
      rw [unhide HR] at hmd
      have HM := hide hmd; have HBe := hide (Below.on (unhide HB) hbel2)
      clear hown2 hbel2 hlt2 hcell hl hmd
      go_wp2_with fail
      refine (unhide HM).mono ?_
      rintro e w2 ⟨rfl, rfl⟩
      go_wp2
      go_ret3
      exact ⟨by kernel_rfl, unhide HBe⟩
    · have HO := hide hown2; have HBe := hide hbel2; have HLt := hide hlt2
      have hj3 : j < 64 := by omega
      clear hown2 hbel2 hlt2 hj hj2
      go_wp2_with fail
      refine (unhide HBX j _ (by omega)).mono ?_
      rintro e w2 ⟨rfl, rfl⟩
      go_wp2_with fail
      refine (unhide HBY j _ (by omega)).mono ?_
      rintro e w2 ⟨rfl, rfl⟩
      cases d1 : bt X j <;> cases d2 : bt Y j
      · have D1 := hide d1; have D2 := hide d2; clear d1 d2
        go_wp2_with (at_builtin; refine wpList_append_own _ rfl (.tmp 83) (.tmp 111) 66 rfl w1.heap.size 4 i0 (.bool false) 1 1 Tryd.underlying66 hi hz0 hz1 hz2 rfl (by decide) u13 j (bRow f j) rfl ((unhide HO).alloc _) ⟨wr.heap.size, 0, none⟩ 1 1 [.bool false] rfl rfl ?c1 ?c2 ?c3 ?c4 ?c5 ?_)
        case c1 => exact cell_one_new _ _ _
        case c2 => first | rfl | (intro u hu; simp at hu; subst hu; rfl)
        case c3 => unfold maxLen; omega
        case c4 => omega
        case c5 => have := unhide HLt; simp; omega
        intro v' w3 hown3 hgrow _
        have hrel2 := rel_b w1.heap.size w1 wr w3 u13 v' f j false (by rw [← unhide HF]; simp only [unhide D1, unhide D2]; rfl) rfl (unhide HBe) (unhide HLt) (unhide HO) hown3 hgrow
        have HR2 := hide hrel2
        clear hown3 hgrow hrel2 HO
        go_wp2
        go_roundw
        case rel => exact ⟨j + 1, by simp, by omega, (unhide HR2).1, (unhide HR2).2.1, (unhide HR2).2.2⟩
        case measure => simp [intOf]; omega
      · have D1 := hide d1; have D2 := hide d2; clear d1 d2
        go_wp2_with (at_builtin; refine wpList_append_own _ rfl (.tmp 83) (.tmp 111) 66 rfl w1.heap.size 4 i0 (.bool false) 1 1 Tryd.underlying66 hi hz0 hz1 hz2 rfl (by decide) u13 j (bRow f j) rfl ((unhide HO).alloc _) ⟨wr.heap.size, 0, none⟩ 1 1 [.bool false] rfl rfl ?c1 ?c2 ?c3 ?c4 ?c5 ?_)
        case c1 => exact cell_one_new _ _ _
        case c2 => first | rfl | (intro u hu; simp at hu; subst hu; rfl)
        case c3 => unfold maxLen; omega
        case c4 => omega
        case c5 => have := unhide HLt; simp; omega
        intro v' w3 hown3 hgrow _
        have hrel2 := rel_b w1.heap.size w1 wr w3 u13 v' f j false (by rw [← unhide HF]; simp only [unhide D1, unhide D2]; rfl) rfl (unhide HBe) (unhide HLt) (unhide HO) hown3 hgrow
        have HR2 := hide hrel2
        clear hown3 hgrow hrel2 HO
        go_wp2
        go_roundw
        case rel => exact ⟨j + 1, by simp, by omega, (unhide HR2).1, (unhide HR2).2.1, (unhide HR2).2.2⟩
        case measure => simp [intOf]; omega
      · have D1 := hide d1; have D2 := hide d2; clear d1 d2
        go_wp2_with (at_builtin; refine wpList_append_own _ rfl (.tmp 83) (.tmp 111) 66 rfl w1.heap.size 4 i0 (.bool false) 1 1 Tryd.underlying66 hi hz0 hz1 hz2 rfl (by decide) u13 j (bRow f j) rfl ((unhide HO).alloc _) ⟨wr.heap.size, 0, none⟩ 1 1 [.bool false] rfl rfl ?c1 ?c2 ?c3 ?c4 ?c5 ?_)
        case c1 => exact cell_one_new _ _ _
        case c2 => first | rfl | (intro u hu; simp at hu; subst hu; rfl)
        case c3 => unfold maxLen; omega
        case c4 => omega
        case c5 => have := unhide HLt; simp; omega
        intro v' w3 hown3 hgrow _
        have hrel2 := rel_b w1.heap.size w1 wr w3 u13 v' f j false (by rw [← unhide HF]; simp only [unhide D1, unhide D2]; rfl) rfl (unhide HBe) (unhide HLt) (unhide HO) hown3 hgrow
        have HR2 := hide hrel2
        clear hown3 hgrow hrel2 HO
        go_wp2
        go_roundw
        case rel => exact ⟨j + 1, by simp, by omega, (unhide HR2).1, (unhide HR2).2.1, (unhide HR2).2.2⟩
        case measure => simp [intOf]; omega
      · have D1 := hide d1; have D2 := hide d2; clear d1 d2
        go_wp2_with (at_builtin; refine wpList_append_own _ rfl (.tmp 83) (.tmp 111) 66 rfl w1.heap.size 4 i0 (.bool false) 1 1 Tryd.underlying66 hi hz0 hz1 hz2 rfl (by decide) u13 j (bRow f j) rfl ((unhide HO).alloc _) ⟨wr.heap.size, 0, none⟩ 1 1 [.bool true] rfl rfl ?c1 ?c2 ?c3 ?c4 ?c5 ?_)
        case c1 => exact cell_one_new _ _ _
        case c2 => first | rfl | (intro u hu; simp at hu; subst hu; rfl)
        case c3 => unfold maxLen; omega
        case c4 => omega
        case c5 => have := unhide HLt; simp; omega
        intro v' w3 hown3 hgrow _
        have hrel2 := rel_b w1.heap.size w1 wr w3 u13 v' f j true (by rw [← unhide HF]; simp only [unhide D1, unhide D2]; rfl) rfl (unhide HBe) (unhide HLt) (unhide HO) hown3 hgrow
        have HR2 := hide hrel2
        clear hown3 hgrow hrel2 HO
        go_wp2
        go_roundw
        case rel => exact ⟨j + 1, by simp, by omega, (unhide HR2).1, (unhide HR2).2.1, (unhide HR2).2.2⟩
        case measure => simp [intOf]; omega

end Go.Proofs.YtkmigcegeffonaaDoor
