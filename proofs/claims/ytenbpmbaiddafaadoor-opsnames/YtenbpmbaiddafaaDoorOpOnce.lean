/- OpsOnce: its walk. -/
import Derived.Test.YtenbpmbaiddafaaDoorOpL
namespace Go.Proofs.YtenbpmbaiddafaaDoor
open Go.RowKit
set_option linter.unusedVariables false

set_option maxRecDepth 100000 in
theorem once_all : ((List.range 256).all fun i => (nm i).isEmpty || ((List.range i).all (fun j => !(nm j == nm i)) && !(flt i))) = true := by kernel_rfl
theorem once_at (i : Nat) (hi : i < 256) (h : nm i ≠ []) : (∀ j, j < i → nm j ≠ nm i) ∧ flt i = false := by
  have h1 := List.all_eq_true.1 once_all i (List.mem_range.2 hi)
  simp only [Bool.or_eq_true, List.isEmpty_iff, Bool.and_eq_true, Bool.not_eq_true'] at h1
  rcases h1 with h1 | ⟨h1, h2⟩
  · exact absurd h1 h
  · refine ⟨fun j hj => ?_, h2⟩
    have := List.all_eq_true.1 h1 j (List.mem_range.2 hj)
    simpa using this
theorem once_first (i : Nat) (hi : i < 256) (h : nm i ≠ []) : ∀ j, j < i → nm j ≠ nm i := (once_at i hi h).1
theorem once_inj {a b : Nat} (ha : a < 256) (hb : b < 256) (h : nm a ≠ []) (e : nm a = nm b) : a = b := by
  rcases Nat.lt_trichotomy a b with h1 | h1 | h1
  · exact absurd e ((once_at b hb (e ▸ h)).1 a h1)
  · exact h1
  · exact absurd e.symm ((once_at a ha h).1 b h1)
/-- how many of the first k numbers have a name -/
def cnt (k : Nat) : Nat := (List.range k).countP fun i => !(nm i).isEmpty
theorem cnt_succ (k : Nat) : cnt (k + 1) = if nm k = [] then cnt k else cnt k + 1 := by
  unfold cnt
  rw [List.range_succ, List.countP_append]
  by_cases h : nm k = []
  · simp [h]
  · simp [h]
theorem cnt_le (k : Nat) : cnt k ≤ k := by
  unfold cnt
  exact Nat.le_trans List.countP_le_length (by rw [List.length_range]; exact Nat.le_refl _)
set_option maxRecDepth 100000 in
theorem cnt_all : cnt 256 = 102 := by kernel_rfl

set_option maxRecDepth 100000 in
set_option maxHeartbeats 3200000 in
theorem once_any (a b : Nat) (ha : a < 256) (hb : b < 256) (w : World) (hT : Tb w) (hF : TC w 3 flV) :
    Calls Tryd.prog 5 #[.int .u8 a, .int .u8 b] w fun e w' => e = .returned (.bool true) ∧ Below w.heap.size w w' := by
  have hA := name_any a ha w hT.1
  have hB := name_any b hb w hT.1
  by_cases he : nm a = []
  · rw [he, str_nil] at hA
    have hNm := fun (k : Nat) (hk : k < 256) => name_any k hk w (hT.1)
    have hOp := fun (l : List UInt8) (k : Nat) (h1 : l ≠ []) (h2 : k < 256) (h3 : nm k = l) (h4 : ∀ j, j < k → nm j ≠ l) => op_yes l k h1 h2 h3 h4 w hT.1
    simp only [errV_0] at hOp
    have hSu := sure_any w hT
    have HNm := hide hNm; have HOp := hide hOp; have HSu := hide hSu
    have HA := hide hA; have HB := hide hB
    clear hA hB hNm hOp hSu hT hF he
    generalize nm b = y at *
    go_enter Tryd.func5, Tryd.ntmps5
    go_wp2_with fail
    refine (unhide HA).mono ?_
    rintro e w1 ⟨rfl, rfl⟩
    go_wp2_with fail
    refine (unhide HB).mono ?_
    rintro e w1 ⟨rfl, rfl⟩
    go_wp2_with fail
    go_loop [7, 8] (fun c i => ∃ j : Nat, (j : Int) ≤ 256 ∧ c = .int .i64 (cnt j) ∧ i = .int .i64 j) (fun _ i => (256 - intOf i).toNat)
    case atStart => exact ⟨0, by omega, rfl, rfl⟩
    case round =>
      obtain ⟨j, hj, rfl, rfl⟩ := hrel
      by_cases hlt : (j : Int) < 256
      · have hcn := unhide HNm j (by omega)
        have hcb := cnt_le j
        have HCN := hide hcn; have HCB := hide hcb; clear hcn hcb hj
        by_cases he : nm j = []
        · have hc2 : cnt (j + 1) = cnt j := by rw [cnt_succ, if_pos he]
          have HC2 := hide hc2; clear hc2
          rw [he, str_nil] at HCN
          clear he
          go_wp2_with fail
          refine (unhide HCN).mono ?_
          rintro e w2 ⟨rfl, rfl⟩
          go_wp2
          go_round
          case rel => exact ⟨j + 1, by omega, by rw [unhide HC2], by go_num⟩
          case measure => simp [intOf]; omega
        · have hc2 : cnt (j + 1) = cnt j + 1 := by rw [cnt_succ, if_neg he]
          have hop := unhide HOp (nm j) j he (by omega) rfl (once_first j (by omega) he)
          have t : (str (nm j)).toList.isEmpty = false := str_ie he
          have HC2 := hide hc2; have HO := hide hop; clear hc2 hop he
          generalize nm j = l at *
          have hcb : (cnt j : Int) ≤ 256 := by have := unhide HCB; omega
          generalize cnt j = c at *
          go_wp2_with fail
          refine (unhide HCN).mono ?_
          rintro e w2 ⟨rfl, rfl⟩
          go_wp2_with fail
          refine (unhide HO).mono ?_
          rintro e w2 ⟨rfl, rfl⟩
          go_wp2
          go_round
          case rel => exact ⟨j + 1, by omega, by rw [unhide HC2]; go_num, by go_num⟩
          case measure => simp [intOf]; omega
      · obtain rfl : j = 256 := by omega
        clear hj hlt
        rw [cnt_all]
        go_wp2_with fail
        refine (unhide HSu).mono ?_
        rintro e w2 ⟨rfl, hb2⟩
        have HB2 := hide hb2; clear hb2
        go_wp2
        go_ret
        exact ⟨rfl, unhide HB2⟩
  · have hFl := float_any a ha w hF
    rw [(once_at a ha he).2] at hFl
    have t0 : (str (nm a)).toList.isEmpty = false := str_ie he
    have HF := hide hFl; have HA := hide hA; have HT := hide hT
    clear hFl hF hA hT
    by_cases hab : a = b
    · subst hab
      have HB := hide hB; clear hB
      clear he
      generalize nm a = x at *
      go_enter Tryd.func5, Tryd.ntmps5
      go_wp2_with fail
      refine (unhide HA).mono ?_
      rintro e w1 ⟨rfl, rfl⟩
      go_wp2_with fail
      refine (unhide HB).mono ?_
      rintro e w1 ⟨rfl, rfl⟩
      go_wp2_with fail
      refine (unhide HF).mono ?_
      rintro e w1 ⟨rfl, hb1⟩
      have hT := (unhide HT).below hb1
      have hNm := fun (k : Nat) (hk : k < 256) => name_any k hk w1 (hT.1)
      have hOp := fun (l : List UInt8) (k : Nat) (h1 : l ≠ []) (h2 : k < 256) (h3 : nm k = l) (h4 : ∀ j, j < k → nm j ≠ l) => op_yes l k h1 h2 h3 h4 w1 hT.1
      simp only [errV_0] at hOp
      have hSu := sure_any w1 hT
      have HNm := hide hNm; have HOp := hide hOp; have HSu := hide hSu
      have HB1 := hide hb1
      clear hb1 hT hNm hOp hSu HA HB HF HT t0
      go_wp2_with fail
      go_loop [7, 8] (fun c i => ∃ j : Nat, (j : Int) ≤ 256 ∧ c = .int .i64 (cnt j) ∧ i = .int .i64 j) (fun _ i => (256 - intOf i).toNat)
      case atStart => exact ⟨0, by omega, rfl, rfl⟩
      case round =>
        obtain ⟨j, hj, rfl, rfl⟩ := hrel
        by_cases hlt : (j : Int) < 256
        · have hcn := unhide HNm j (by omega)
          have hcb := cnt_le j
          have HCN := hide hcn; have HCB := hide hcb; clear hcn hcb hj
          by_cases he : nm j = []
          · have hc2 : cnt (j + 1) = cnt j := by rw [cnt_succ, if_pos he]
            have HC2 := hide hc2; clear hc2
            rw [he, str_nil] at HCN
            clear he
            go_wp2_with fail
            refine (unhide HCN).mono ?_
            rintro e w2 ⟨rfl, rfl⟩
            go_wp2
            go_round
            case rel => exact ⟨j + 1, by omega, by rw [unhide HC2], by go_num⟩
            case measure => simp [intOf]; omega
          · have hc2 : cnt (j + 1) = cnt j + 1 := by rw [cnt_succ, if_neg he]
            have hop := unhide HOp (nm j) j he (by omega) rfl (once_first j (by omega) he)
            have t : (str (nm j)).toList.isEmpty = false := str_ie he
            have HC2 := hide hc2; have HO := hide hop; clear hc2 hop he
            generalize nm j = l at *
            have hcb : (cnt j : Int) ≤ 256 := by have := unhide HCB; omega
            generalize cnt j = c at *
            go_wp2_with fail
            refine (unhide HCN).mono ?_
            rintro e w2 ⟨rfl, rfl⟩
            go_wp2_with fail
            refine (unhide HO).mono ?_
            rintro e w2 ⟨rfl, rfl⟩
            go_wp2
            go_round
            case rel => exact ⟨j + 1, by omega, by rw [unhide HC2]; go_num, by go_num⟩
            case measure => simp [intOf]; omega
        · obtain rfl : j = 256 := by omega
          clear hj hlt
          rw [cnt_all]
          go_wp2_with fail
          refine (unhide HSu).mono ?_
          rintro e w2 ⟨rfl, hb2⟩
          have HB2 := hide hb2; clear hb2
          go_wp2
          go_ret
          exact ⟨rfl, Below.on (unhide HB1) (unhide HB2)⟩
    · have t1 : ((str (nm a)).toList == (str (nm b)).toList) = false := str_bne (fun e => hab (once_inj ha hb he e))
      have t2 : ((a : Int) == (b : Int)) = false := by simp; omega
      have HB := hide hB; clear hB
      clear he hab
      generalize nm a = x at *
      generalize nm b = y at *
      go_enter Tryd.func5, Tryd.ntmps5
      go_wp2_with fail
      refine (unhide HA).mono ?_
      rintro e w1 ⟨rfl, rfl⟩
      go_wp2_with fail
      refine (unhide HB).mono ?_
      rintro e w1 ⟨rfl, rfl⟩
      go_wp2_with fail
      refine (unhide HF).mono ?_
      rintro e w1 ⟨rfl, hb1⟩
      have hT := (unhide HT).below hb1
      have hNm := fun (k : Nat) (hk : k < 256) => name_any k hk w1 (hT.1)
      have hOp := fun (l : List UInt8) (k : Nat) (h1 : l ≠ []) (h2 : k < 256) (h3 : nm k = l) (h4 : ∀ j, j < k → nm j ≠ l) => op_yes l k h1 h2 h3 h4 w1 hT.1
      simp only [errV_0] at hOp
      have hSu := sure_any w1 hT
      have HNm := hide hNm; have HOp := hide hOp; have HSu := hide hSu
      have HB1 := hide hb1
      clear hb1 hT hNm hOp hSu HA HB HF HT t0 t1 t2
      go_wp2_with fail
      go_loop [7, 8] (fun c i => ∃ j : Nat, (j : Int) ≤ 256 ∧ c = .int .i64 (cnt j) ∧ i = .int .i64 j) (fun _ i => (256 - intOf i).toNat)
      case atStart => exact ⟨0, by omega, rfl, rfl⟩
      case round =>
        obtain ⟨j, hj, rfl, rfl⟩ := hrel
        by_cases hlt : (j : Int) < 256
        · have hcn := unhide HNm j (by omega)
          have hcb := cnt_le j
          have HCN := hide hcn; have HCB := hide hcb; clear hcn hcb hj
          by_cases he : nm j = []
          · have hc2 : cnt (j + 1) = cnt j := by rw [cnt_succ, if_pos he]
            have HC2 := hide hc2; clear hc2
            rw [he, str_nil] at HCN
            clear he
            go_wp2_with fail
            refine (unhide HCN).mono ?_
            rintro e w2 ⟨rfl, rfl⟩
            go_wp2
            go_round
            case rel => exact ⟨j + 1, by omega, by rw [unhide HC2], by go_num⟩
            case measure => simp [intOf]; omega
          · have hc2 : cnt (j + 1) = cnt j + 1 := by rw [cnt_succ, if_neg he]
            have hop := unhide HOp (nm j) j he (by omega) rfl (once_first j (by omega) he)
            have t : (str (nm j)).toList.isEmpty = false := str_ie he
            have HC2 := hide hc2; have HO := hide hop; clear hc2 hop he
            generalize nm j = l at *
            have hcb : (cnt j : Int) ≤ 256 := by have := unhide HCB; omega
            generalize cnt j = c at *
            go_wp2_with fail
            refine (unhide HCN).mono ?_
            rintro e w2 ⟨rfl, rfl⟩
            go_wp2_with fail
            refine (unhide HO).mono ?_
            rintro e w2 ⟨rfl, rfl⟩
            go_wp2
            go_round
            case rel => exact ⟨j + 1, by omega, by rw [unhide HC2]; go_num, by go_num⟩
            case measure => simp [intOf]; omega
        · obtain rfl : j = 256 := by omega
          clear hj hlt
          rw [cnt_all]
          go_wp2_with fail
          refine (unhide HSu).mono ?_
          rintro e w2 ⟨rfl, hb2⟩
          have HB2 := hide hb2; clear hb2
          go_wp2
          go_ret
          exact ⟨rfl, Below.on (unhide HB1) (unhide HB2)⟩
end Go.Proofs.YtenbpmbaiddafaaDoor
