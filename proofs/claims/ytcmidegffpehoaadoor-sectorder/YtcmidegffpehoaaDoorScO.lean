/- SectOrder: two sections without contents. -/
import Derived.Test.YtcmidegffpehoaaDoorScS
namespace Go.Proofs.YtcmidegffpehoaaDoor
open Go.RowKit
namespace Sc
set_option linter.unusedVariables false
theorem idl_bytes (x : Nat) (h : x < 14) : ∀ z ∈ idl x, 0 ≤ z ∧ z ≤ 255 := by
  unfold idl
  split
  · intro z hz; simp at hz; omega
  · intro z hz; simp at hz; omega
theorem hd_bytes : ∀ z ∈ hd, 0 ≤ z ∧ z ≤ 255 := by decide
theorem idl_len (x : Int) : (idl x).length ≤ 3 := by unfold idl; split <;> simp
/-- a string's bytes, wherever -/
theorem conv_str (zs : List Int) (St : ByteArray) (h : strOfNums zs = St) (w : World) : (convert 9 22 (.string St)).run Tryd.prog w = .ok (.slice (some ⟨w.heap.size, 0, none⟩) zs.length (grownCap w zs.length 0 5)) (Lib.bytesWorld w 5 St) := by
  have := Lib.run_convert_string_bytes (P := Tryd.prog) w 9 22 5 St Tryd.underlying9 Tryd.underlying22 Tryd.underlying5
  rw [← h, str_size] at this
  rw [← h]
  exact this
set_option maxRecDepth 100000 in
set_option maxHeartbeats 1600000 in
theorem order_any (a b : Int) (w : World) (ha0 : 0 ≤ a) (ha1 : a ≤ 255) (hb0 : 0 ≤ b) (hb1 : b ≤ 255) (hE : ErrT w) (hT : U8 w) : Calls Tryd.prog 7 #[.int .u8 a, .int .u8 b] w fun e w' => e = .returned (.bool true) ∧ Below w.heap.size w w' := by
  obtain ⟨x, hx⟩ : ∃ x : Nat, a % 14 = (x : Int) := ⟨(a % 14).toNat, by omega⟩
  obtain ⟨y, hy⟩ : ∃ y : Nat, b % 14 = (y : Int) := ⟨(b % 14).toNat, by omega⟩
  have hx1 : x < 14 := by omega
  have hy1 : y < 14 := by omega
  have hxt : a.tmod 14 = (x : Int) := by rw [Int.tmod_eq_emod_of_nonneg ha0]; exact hx
  have hyt : b.tmod 14 = (y : Int) := by rw [Int.tmod_eq_emod_of_nonneg hb0]; exact hy
  have hR := order_at hx1 hy1
  have hby : ∀ z ∈ hd ++ idl x ++ idl y, 0 ≤ z ∧ z ≤ 255 := by
    intro z hz
    rcases List.mem_append.1 hz with h | h
    · rcases List.mem_append.1 h with h | h
      · exact hd_bytes z h
      · exact idl_bytes x hx1 z h
    · exact idl_bytes y hy1 z h
  have hln : (hd ++ idl x ++ idl y).length ≤ 50000 := by have := idl_len x; have := idl_len y; simp [hd]; omega
  have hi1 := fun w => idle_any x w (by omega) (by omega)
  have hi2 := fun w => idle_any y w (by omega) (by omega)
  have hst : (⟨#[0, 97, 115, 109, 1, 0, 0, 0]⟩ : ByteArray) ++ strOfNums (idl x) ++ strOfNums (idl y) = strOfNums (hd ++ idl x ++ idl y) := by
    rw [← strNums_append, ← strNums_append]; rfl
  have hsp := fun (wx : World) (hb : Below w.heap.size w wx) => split_any (str_row wx _ hby) (grownCap_ge wx (hd ++ idl x ++ idl y).length 0 5) hln (Utf8Tabs_below (Utf8Tabs_below hT hb) (str_below wx _))
  obtain ⟨A, hA⟩ : ∃ A, strOfNums (idl x) = A := ⟨_, rfl⟩
  obtain ⟨B, hB⟩ : ∃ B, strOfNums (idl y) = B := ⟨_, rfl⟩
  have hAs : A.size ≤ 3 := by rw [← hA, str_size]; exact idl_len x
  have hBs : B.size ≤ 3 := by rw [← hB, str_size]; exact idl_len y
  rw [hA] at hi1 hst; rw [hB] at hi2 hst
  have hc1 := fun w => run_string_add_sum (P := Tryd.prog) w ⟨#[0, 97, 115, 109, 1, 0, 0, 0]⟩ A (show (8 : Nat) + A.size ≤ 9223372036854775807 by omega)
  have hc2 := fun w => run_string_add_sum (P := Tryd.prog) w (⟨#[0, 97, 115, 109, 1, 0, 0, 0]⟩ ++ A) B (show (⟨#[0, 97, 115, 109, 1, 0, 0, 0]⟩ ++ A : ByteArray).size + B.size ≤ 9223372036854775807 by rw [ByteArray.size_append]; show 8 + A.size + B.size ≤ _; omega)
  clear hAs hBs
  have hcv := fun wx => conv_str (hd ++ idl x ++ idl y) _ hst.symm wx
  rw [← hst] at hsp
  obtain ⟨zs, hzs⟩ : ∃ zs, hd ++ idl x ++ idl y = zs := ⟨_, rfl⟩
  rw [hzs] at hR hsp hcv hln
  have HI1 := hide hi1; have HI2 := hide hi2; have HSp := hide hsp; have HR := hide hR; have HE := hide hE; have HT := hide hT
  clear hi1 hi2 hsp hR hE hT hst hzs hA hB hby
  unfold okO at HR
  by_cases c1 : (x : Int) ≤ 11
  · by_cases c2 : (y : Int) ≤ 11
    · by_cases c3 : x = 0
      · subst c3
        have hRe := (unhide HR).1 (decide_eq_true (by omega))
        clear HR
        go_enter Tryd.func7, Tryd.ntmps7
        go_wp2_with fail
        refine (unhide HI1 _).mono ?_
        rintro e w1 ⟨rfl, hb1⟩
        have HB1 := hide hb1; clear hb1
        go_wp2_with fail
        refine (unhide HI2 _).mono ?_
        rintro e w2 ⟨rfl, hb2⟩
        have HB2 := hide (Below.on (unhide HB1) hb2); clear hb2 HB1
        go_wp2_with fail
        refine (unhide HSp _ (unhide HB2)).mono ?_
        rintro e w3 ⟨v, rfl, hb3, hok, hno⟩
        rw [hRe.1, errV_0]
        obtain ⟨va, vc, rfl, _⟩ := hok hRe.1
        rw [hRe.2]
        have HB3 := hide (Below.on (unhide HB2) (Below.on (str_below _ _) hb3))
        clear hb3 hok hno HB2
        go_wp2_with fail
        refine (sure_any _ (Utf8Tabs_below (unhide HT) (unhide HB3))).mono ?_
        rintro e w5 ⟨rfl, hb5⟩
        have HB5 := hide (Below.on (unhide HB3) hb5); clear hb5
        go_wp2
        go_ret
        exact ⟨rfl, unhide HB5⟩
      · have c3b : ((x : Int) == 0) = false := by simp; omega
        by_cases c4 : y = 0
        · subst c4
          have hRe := (unhide HR).1 (decide_eq_true (by omega))
          clear HR
          go_enter Tryd.func7, Tryd.ntmps7
          go_wp2_with fail
          refine (unhide HI1 _).mono ?_
          rintro e w1 ⟨rfl, hb1⟩
          have HB1 := hide hb1; clear hb1
          go_wp2_with fail
          refine (unhide HI2 _).mono ?_
          rintro e w2 ⟨rfl, hb2⟩
          have HB2 := hide (Below.on (unhide HB1) hb2); clear hb2 HB1
          go_wp2_with fail
          refine (unhide HSp _ (unhide HB2)).mono ?_
          rintro e w3 ⟨v, rfl, hb3, hok, hno⟩
          rw [hRe.1, errV_0]
          obtain ⟨va, vc, rfl, _⟩ := hok hRe.1
          rw [hRe.2]
          have HB3 := hide (Below.on (unhide HB2) (Below.on (str_below _ _) hb3))
          clear hb3 hok hno HB2
          go_wp2_with fail
          refine (sure_any _ (Utf8Tabs_below (unhide HT) (unhide HB3))).mono ?_
          rintro e w5 ⟨rfl, hb5⟩
          have HB5 := hide (Below.on (unhide HB3) hb5); clear hb5
          go_wp2
          go_ret
          exact ⟨rfl, unhide HB5⟩
        · have c4b : ((y : Int) == 0) = false := by simp; omega
          by_cases c5 : (x : Int) < (y : Int)
          · skip
            have hRe := (unhide HR).1 (decide_eq_true (by omega))
            clear HR
            go_enter Tryd.func7, Tryd.ntmps7
            go_wp2_with fail
            refine (unhide HI1 _).mono ?_
            rintro e w1 ⟨rfl, hb1⟩
            have HB1 := hide hb1; clear hb1
            go_wp2_with fail
            refine (unhide HI2 _).mono ?_
            rintro e w2 ⟨rfl, hb2⟩
            have HB2 := hide (Below.on (unhide HB1) hb2); clear hb2 HB1
            go_wp2_with fail
            refine (unhide HSp _ (unhide HB2)).mono ?_
            rintro e w3 ⟨v, rfl, hb3, hok, hno⟩
            rw [hRe.1, errV_0]
            obtain ⟨va, vc, rfl, _⟩ := hok hRe.1
            rw [hRe.2]
            have HB3 := hide (Below.on (unhide HB2) (Below.on (str_below _ _) hb3))
            clear hb3 hok hno HB2
            go_wp2_with fail
            refine (sure_any _ (Utf8Tabs_below (unhide HT) (unhide HB3))).mono ?_
            rintro e w5 ⟨rfl, hb5⟩
            have HB5 := hide (Below.on (unhide HB3) hb5); clear hb5
            go_wp2
            go_ret
            exact ⟨rfl, unhide HB5⟩
          · have c5b : decide (x < y) = false := decide_eq_false (by omega)
            have hRe := (unhide HR).2 (decide_eq_false (by omega))
            clear HR
            go_enter Tryd.func7, Tryd.ntmps7
            go_wp2_with fail
            refine (unhide HI1 _).mono ?_
            rintro e w1 ⟨rfl, hb1⟩
            have HB1 := hide hb1; clear hb1
            go_wp2_with fail
            refine (unhide HI2 _).mono ?_
            rintro e w2 ⟨rfl, hb2⟩
            have HB2 := hide (Below.on (unhide HB1) hb2); clear hb2 HB1
            go_wp2_with fail
            refine (unhide HSp _ (unhide HB2)).mono ?_
            rintro e w3 ⟨v, rfl, hb3, hok, hno⟩
            rw [hRe, errV_6]
            obtain rfl := hno (by rw [hRe]; decide)
            have HB3 := hide (Below.on (unhide HB2) (Below.on (str_below _ _) hb3))
            clear hb3 hok hno HB2
            go_wp2_with fail
            refine (num_hit 6 _ ((unhide HE).below (Nat.le_refl _) (unhide HB3))).mono ?_
            rintro e w4 ⟨rfl, hb4⟩
            have HB4 := hide (Below.on (unhide HB3) hb4); clear hb4 HB3
            go_wp2_with fail
            refine (sure_any _ (Utf8Tabs_below (unhide HT) (unhide HB4))).mono ?_
            rintro e w5 ⟨rfl, hb5⟩
            have HB5 := hide (Below.on (unhide HB4) hb5); clear hb5
            go_wp2
            go_ret
            exact ⟨rfl, unhide HB5⟩
    · skip
      have hRe := (unhide HR).2 (decide_eq_false (by omega))
      clear HR
      go_enter Tryd.func7, Tryd.ntmps7
      go_wp2_with fail
      refine (unhide HI1 _).mono ?_
      rintro e w1 ⟨rfl, hb1⟩
      have HB1 := hide hb1; clear hb1
      go_wp2_with fail
      refine (unhide HI2 _).mono ?_
      rintro e w2 ⟨rfl, hb2⟩
      have HB2 := hide (Below.on (unhide HB1) hb2); clear hb2 HB1
      go_wp2_with fail
      refine (unhide HSp _ (unhide HB2)).mono ?_
      rintro e w3 ⟨v, rfl, hb3, hok, hno⟩
      rw [hRe, errV_6]
      obtain rfl := hno (by rw [hRe]; decide)
      have HB3 := hide (Below.on (unhide HB2) (Below.on (str_below _ _) hb3))
      clear hb3 hok hno HB2
      go_wp2_with fail
      refine (num_hit 6 _ ((unhide HE).below (Nat.le_refl _) (unhide HB3))).mono ?_
      rintro e w4 ⟨rfl, hb4⟩
      have HB4 := hide (Below.on (unhide HB3) hb4); clear hb4 HB3
      go_wp2_with fail
      refine (sure_any _ (Utf8Tabs_below (unhide HT) (unhide HB4))).mono ?_
      rintro e w5 ⟨rfl, hb5⟩
      have HB5 := hide (Below.on (unhide HB4) hb5); clear hb5
      go_wp2
      go_ret
      exact ⟨rfl, unhide HB5⟩
  · skip
    have hRe := (unhide HR).2 (decide_eq_false (by omega))
    clear HR
    go_enter Tryd.func7, Tryd.ntmps7
    go_wp2_with fail
    refine (unhide HI1 _).mono ?_
    rintro e w1 ⟨rfl, hb1⟩
    have HB1 := hide hb1; clear hb1
    go_wp2_with fail
    refine (unhide HI2 _).mono ?_
    rintro e w2 ⟨rfl, hb2⟩
    have HB2 := hide (Below.on (unhide HB1) hb2); clear hb2 HB1
    go_wp2_with fail
    refine (unhide HSp _ (unhide HB2)).mono ?_
    rintro e w3 ⟨v, rfl, hb3, hok, hno⟩
    rw [hRe, errV_6]
    obtain rfl := hno (by rw [hRe]; decide)
    have HB3 := hide (Below.on (unhide HB2) (Below.on (str_below _ _) hb3))
    clear hb3 hok hno HB2
    go_wp2_with fail
    refine (num_hit 6 _ ((unhide HE).below (Nat.le_refl _) (unhide HB3))).mono ?_
    rintro e w4 ⟨rfl, hb4⟩
    have HB4 := hide (Below.on (unhide HB3) hb4); clear hb4 HB3
    go_wp2_with fail
    refine (sure_any _ (Utf8Tabs_below (unhide HT) (unhide HB4))).mono ?_
    rintro e w5 ⟨rfl, hb5⟩
    have HB5 := hide (Below.on (unhide HB4) hb5); clear hb5
    go_wp2
    go_ret
    exact ⟨rfl, unhide HB5⟩
end Sc
end Go.Proofs.YtcmidegffpehoaaDoor
