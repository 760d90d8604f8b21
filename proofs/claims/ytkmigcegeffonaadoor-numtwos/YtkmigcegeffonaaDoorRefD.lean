/- The document's divided: quotients and what is left, or the trap. -/
import Derived.Test.YtkmigcegeffonaaDoorRefS
namespace Go.Proofs.YtkmigcegeffonaaDoor
open Go.RowKit Num
set_option linter.unusedVariables false

namespace Num
theorem sg_aw (W : Nat) (hW : W = 32 ∨ W = 64) (X : Int) (h0 : 0 ≤ X) (h1 : X < pw W) : (hf W ≤ X ∧ sg W X = -(aw W X)) ∨ (¬ hf W ≤ X ∧ sg W X = aw W X) := by
  rw [sg_ng W hW X h0 h1]
  unfold aw
  by_cases h : hf W ≤ X
  · refine .inl ⟨h, ?_⟩; rw [if_pos h, if_pos h]; omega
  · refine .inr ⟨h, ?_⟩; rw [if_neg h, if_neg h]
theorem aw_pos (W : Nat) (hW : W = 32 ∨ W = 64) (X : Int) (h0 : 0 ≤ X) (h1 : X < pw W) (h : X ≠ 0) : 0 < aw W X := by
  unfold aw
  by_cases h : hf W ≤ X
  · rw [if_pos h]; omega
  · rw [if_neg h]; omega
theorem tm_nn (a b : Int) (h0 : 0 ≤ a) : a.tmod b = a % b := Int.tmod_eq_emod_of_nonneg h0
theorem td_nn (a b : Int) (h0 : 0 ≤ a) : a.tdiv b = a / b := Int.tdiv_eq_ediv_of_nonneg h0
/-- what is left, by signs -/
theorem remS (W : Nat) (hW : W = 32 ∨ W = 64) (X Y : Int) (h0 : 0 ≤ X) (h1 : X < pw W) (h2 : 0 ≤ Y) (h3 : Y < pw W) (hY : Y ≠ 0) :
    (hf W ≤ X ∧ dvV W 111 X Y = lo W (-(aw W X % aw W Y))) ∨ (¬ hf W ≤ X ∧ dvV W 111 X Y = aw W X % aw W Y) := by
  have a0 := aw_bd W hW X h0 h1
  have b0 := aw_bd W hW Y h2 h3
  have bp := aw_pos W hW Y h2 h3 hY
  have e : dvV W 111 X Y = lo W ((sg W X).tmod (sg W Y)) := by
    simp only [dvV]; rw [if_neg hY]; simp
  have e2 : ∀ a : Int, a.tmod (sg W Y) = a.tmod (aw W Y) := by
    intro a
    rcases sg_aw W hW Y h2 h3 with ⟨_, h⟩ | ⟨_, h⟩
    · rw [h, Int.tmod_neg]
    · rw [h]
  rw [e, e2]
  rcases sg_aw W hW X h0 h1 with ⟨hx, h⟩ | ⟨hx, h⟩
  · refine .inl ⟨hx, ?_⟩
    rw [h, Int.neg_tmod, tm_nn _ _ a0.1]
  · refine .inr ⟨hx, ?_⟩
    rw [h, tm_nn _ _ a0.1]
    have := Int.emod_nonneg (aw W X) (b := aw W Y) (by omega)
    have := Int.emod_lt_of_pos (aw W X) bp
    refine lo_id W _ (by omega) ?_
    have : hf W ≤ pw W := by rcases hW with rfl | rfl <;> decide
    omega
/-- quotients, by signs -/
theorem divS (W : Nat) (hW : W = 32 ∨ W = 64) (X Y : Int) (h0 : 0 ≤ X) (h1 : X < pw W) (h2 : 0 ≤ Y) (h3 : Y < pw W) (hY : Y ≠ 0) :
    (ngB W X ≠ ngB W Y ∧ dvV W 109 X Y = lo W (-(aw W X / aw W Y)) ∧ dvT W 109 X Y = 0) ∨
    (ngB W X = ngB W Y ∧ hf W ≤ aw W X / aw W Y ∧ dvV W 109 X Y = 0 ∧ dvT W 109 X Y = 3) ∨
    (ngB W X = ngB W Y ∧ aw W X / aw W Y < hf W ∧ dvV W 109 X Y = aw W X / aw W Y ∧ dvT W 109 X Y = 0) := by
  have a0 := aw_bd W hW X h0 h1
  have b0 := aw_bd W hW Y h2 h3
  have bp := aw_pos W hW Y h2 h3 hY
  have hp : 1 < hf W ∧ hf W < pw W := by rcases hW with rfl | rfl <;> decide
  have q0 : 0 ≤ aw W X / aw W Y := Int.ediv_nonneg a0.1 b0.1
  have q1 : aw W X / aw W Y ≤ aw W X := Int.ediv_le_self _ a0.1
  have e : dvV W 109 X Y = if sg W Y = -1 ∧ sg W X = - hf W then 0 else lo W ((sg W X).tdiv (sg W Y)) := by
    simp only [dvV]; rw [if_neg hY]; simp
  have e2 : dvT W 109 X Y = if sg W Y = -1 ∧ sg W X = - hf W then 3 else 0 := by
    simp only [dvT]; rw [if_neg hY]; simp
  have n1 : ∀ Z, hf W ≤ Z → ngB W Z = true := fun Z h => by unfold ngB; simp [h]
  have n2 : ∀ Z, ¬ hf W ≤ Z → ngB W Z = false := fun Z h => by unfold ngB; simp only [decide_eq_false_iff_not]; exact h
  have ax : ¬ hf W ≤ X → aw W X < hf W := fun h => by unfold aw; rw [if_neg h]; omega
  rcases sg_aw W hW X h0 h1 with ⟨hx, h⟩ | ⟨hx, h⟩ <;> rcases sg_aw W hW Y h2 h3 with ⟨hy, h'⟩ | ⟨hy, h'⟩
  · rw [n1 X hx, n1 Y hy, e, e2, h, h', Int.neg_tdiv, Int.tdiv_neg, Int.neg_neg, td_nn _ _ a0.1]
    by_cases hq : hf W ≤ aw W X / aw W Y
    · refine .inr (.inl ⟨rfl, hq, ?_⟩)
      have hXe : aw W X = hf W := by omega
      have hYe : aw W Y = 1 := by
        rcases Int.lt_or_le 1 (aw W Y) with hl | hl
        · have : aw W X / aw W Y < aw W X := Int.ediv_lt_self_of_pos_of_ne_one (by omega) (by omega)
          omega
        · omega
      rw [hXe, hYe]; simp
    · refine .inr (.inr ⟨rfl, by omega, ?_⟩)
      have hc : ¬ (-aw W Y = -1 ∧ -aw W X = -hf W) := by
        rintro ⟨c1, c2⟩
        have : aw W Y = 1 := by omega
        rw [this, Int.ediv_one] at hq
        omega
      rw [if_neg hc, if_neg hc]
      exact ⟨lo_id W _ q0 (by omega), rfl⟩
  · rw [n1 X hx, n2 Y hy, e, e2, h, h', Int.neg_tdiv, td_nn _ _ a0.1]
    have hc : ¬ (aw W Y = -1 ∧ -aw W X = -hf W) := by omega
    rw [if_neg hc, if_neg hc]
    exact .inl ⟨by simp, rfl, rfl⟩
  · rw [n2 X hx, n1 Y hy, e, e2, h, h', Int.tdiv_neg, td_nn _ _ a0.1]
    have hc : ¬ (-aw W Y = -1 ∧ aw W X = -hf W) := by omega
    rw [if_neg hc, if_neg hc]
    exact .inl ⟨by simp, rfl, rfl⟩
  · rw [n2 X hx, n2 Y hy, e, e2, h, h', td_nn _ _ a0.1]
    have hc : ¬ (aw W Y = -1 ∧ aw W X = -hf W) := by omega
    rw [if_neg hc, if_neg hc]
    have := ax hx
    exact .inr (.inr ⟨rfl, by omega, lo_id W _ q0 (by omega), rfl⟩)
end Num

def DivIs (s : ByteArray) (b : Int) : Prop := ∀ (W : Nat) (hW : W = 32 ∨ W = 64) (X Y : Int) (w : World) (h0 : 0 ≤ X) (h1 : X < pw W) (h2 : 0 ≤ Y) (h3 : Y < pw W),
  Calls Tryd.prog 36 #[.string s, .int .u64 X, .int .u64 Y, .int .i64 W] w fun e w' => e = .returned (.tuple #[.int .u64 (dvV W b X Y), .int .i64 (dvT W b X Y)]) ∧ w = w'
theorem div_zero (s : ByteArray) (b : Int) (W : Nat) (X : Int) (w : World) :
    Calls Tryd.prog 36 #[.string s, .int .u64 X, .int .u64 0, .int .i64 W] w fun e w' => e = .returned (.tuple #[.int .u64 (dvV W b X 0), .int .i64 (dvT W b X 0)]) ∧ w = w' := by
  rw [show dvV W b X 0 = 0 by simp [dvV], show dvT W b X 0 = 2 by simp [dvT]]
  go_enter Tryd.func36, Tryd.ntmps36
  go_wp2
  go_ret2
  exact ⟨by kernel_rfl, rfl⟩
set_option maxHeartbeats 400000 in
theorem div_u_is : DivIs ⟨#[100, 105, 118, 95, 117]⟩ 110 := by
  intro W hW X Y w h0 h1 h2 h3
  by_cases hY : Y = 0
  · subst hY; exact div_zero _ _ W X w
  · rw [show dvV W 110 X Y = X / Y by simp [dvV, hY], show dvT W 110 X Y = 0 by simp [dvT, hY]]
    have t1 : (Y == 0) = false := by simp [hY]
    have hp := pw_le W hW
    have hx : X < 18446744073709551616 := by omega
    have hy : Y < 18446744073709551616 := by omega
    clear h1 h3 hp
    go_enter Tryd.func36, Tryd.ntmps36
    go_wp2
    go_ret2
    exact ⟨by kernel_rfl, rfl⟩
set_option maxHeartbeats 400000 in
theorem rem_u_is : DivIs ⟨#[114, 101, 109, 95, 117]⟩ 112 := by
  intro W hW X Y w h0 h1 h2 h3
  by_cases hY : Y = 0
  · subst hY; exact div_zero _ _ W X w
  · rw [show dvV W 112 X Y = X % Y by simp [dvV, hY], show dvT W 112 X Y = 0 by simp [dvT, hY]]
    have t1 : (Y == 0) = false := by simp [hY]
    have hp := pw_le W hW
    have hx : X < 18446744073709551616 := by omega
    have hy : Y < 18446744073709551616 := by omega
    clear h1 h3 hp
    go_enter Tryd.func36, Tryd.ntmps36
    go_wp2
    go_ret2
    exact ⟨by kernel_rfl, rfl⟩
set_option maxHeartbeats 800000 in
theorem rem_s_is : DivIs ⟨#[114, 101, 109, 95, 115]⟩ 111 := by
  intro W hW X Y w h0 h1 h2 h3
  by_cases hY : Y = 0
  · subst hY; exact div_zero _ _ W X w
  · have t1 : (Y == 0) = false := by simp [hY]
    rw [show dvT W 111 X Y = 0 by simp [dvT, hY]]
    have ha := fun wx => away_any W hW X wx h0 h1
    have hb := fun wx => away_any W hW Y wx h2 h3
    have hn := fun wx => negative_any W hW X wx h0 h1
    have a0 := aw_bd W hW X h0 h1
    have b0 := aw_bd W hW Y h2 h3
    have bp := aw_pos W hW Y h2 h3 hY
    have hp : hf W < 18446744073709551616 := by rcases hW with rfl | rfl <;> decide
    have hr := remS W hW X Y h0 h1 h2 h3 hY
    have hu := u64_bd (-(aw W X % aw W Y))
    have hl := fun wx => low_any W hW (IntKind.u64.wrap (-(aw W X % aw W Y))) wx hu.1 hu.2
    rw [lo_u64 W hW] at hl
    rcases hr with ⟨hx, hr⟩ | ⟨hx, hr⟩
    · rw [hr]
      rw [show ngB W X = true by unfold ngB; simp [hx]] at hn
      have A1 : aw W X < 18446744073709551616 := by omega
      have B1 : aw W Y < 18446744073709551616 := by omega
      have A0 := a0.1
      clear hr hu a0 b0 hp hx h1 h3
      generalize lo W (-(aw W X % aw W Y)) = R at *
      generalize aw W X = A at *
      generalize aw W Y = B at *
      have HA := hide ha; have HBB := hide hb; have HN := hide hn; have HL := hide hl; clear ha hb hn hl
      go_enter Tryd.func36, Tryd.ntmps36
      go_wp2_with fail
      refine (unhide HA _).mono ?_
      rintro e w1 ⟨rfl, rfl⟩
      go_wp2_with fail
      refine (unhide HBB _).mono ?_
      rintro e w1 ⟨rfl, rfl⟩
      go_wp2_with fail
      refine (unhide HN _).mono ?_
      rintro e w1 ⟨rfl, rfl⟩
      go_wp2_with fail
      refine (unhide HL _).mono ?_
      rintro e w1 ⟨rfl, rfl⟩
      go_wp2
      go_ret2
      exact ⟨by kernel_rfl, rfl⟩
    · rw [hr]
      rw [show ngB W X = false by unfold ngB; simp only [decide_eq_false_iff_not]; exact hx] at hn
      have A1 : aw W X < 18446744073709551616 := by omega
      have B1 : aw W Y < 18446744073709551616 := by omega
      have A0 := a0.1
      clear hr hu a0 b0 hp hx h1 h3 hl
      generalize aw W X = A at *
      generalize aw W Y = B at *
      have HA := hide ha; have HBB := hide hb; have HN := hide hn; clear ha hb hn
      go_enter Tryd.func36, Tryd.ntmps36
      go_wp2_with fail
      refine (unhide HA _).mono ?_
      rintro e w1 ⟨rfl, rfl⟩
      go_wp2_with fail
      refine (unhide HBB _).mono ?_
      rintro e w1 ⟨rfl, rfl⟩
      go_wp2_with fail
      refine (unhide HN _).mono ?_
      rintro e w1 ⟨rfl, rfl⟩
      go_wp2
      go_ret2
      exact ⟨by kernel_rfl, rfl⟩
set_option maxHeartbeats 1600000 in
theorem div_s_is : DivIs ⟨#[100, 105, 118, 95, 115]⟩ 109 := by
  intro W hW X Y w h0 h1 h2 h3
  by_cases hY : Y = 0
  · subst hY; exact div_zero _ _ W X w
  · have t1 : (Y == 0) = false := by simp [hY]
    have ha := fun wx => away_any W hW X wx h0 h1
    have hb := fun wx => away_any W hW Y wx h2 h3
    have hn := fun wx => negative_any W hW X wx h0 h1
    have hn2 := fun wx => negative_any W hW Y wx h2 h3
    have a0 := aw_bd W hW X h0 h1
    have b0 := aw_bd W hW Y h2 h3
    have bp := aw_pos W hW Y h2 h3 hY
    have hp : hf W < 18446744073709551616 ∧ hf W < pw W := by rcases hW with rfl | rfl <;> decide
    have hr := divS W hW X Y h0 h1 h2 h3 hY
    have hu := u64_bd (-(aw W X / aw W Y))
    have hl := fun wx => low_any W hW (IntKind.u64.wrap (-(aw W X / aw W Y))) wx hu.1 hu.2
    rw [lo_u64 W hW] at hl
    have q0 : 0 ≤ aw W X / aw W Y := Int.ediv_nonneg a0.1 b0.1
    have q1 : aw W X / aw W Y ≤ aw W X := Int.ediv_le_self _ a0.1
    have hq := fun wx => negative_any W hW (aw W X / aw W Y) wx q0 (by omega)
    have A1 : aw W X < 18446744073709551616 := by omega
    have B1 : aw W Y < 18446744073709551616 := by omega
    have A0 := a0.1
    rcases hr with ⟨hx, hr, hr2⟩ | ⟨hx, hx2, hr, hr2⟩ | ⟨hx, hx2, hr, hr2⟩
    · rw [hr, hr2]
      clear hr hr2 hu a0 b0 hp h1 h3 hq q0 q1
      generalize lo W (-(aw W X / aw W Y)) = R at *
      generalize aw W X = A at *
      generalize aw W Y = B at *
      generalize ngB W X = N1 at *
      generalize ngB W Y = N2 at *
      have HA := hide ha; have HBB := hide hb; have HN := hide hn; have HN2 := hide hn2; have HL := hide hl; clear ha hb hn hl hn2
      cases N1 <;> cases N2
      · exact absurd rfl hx
      · clear hx
        go_enter Tryd.func36, Tryd.ntmps36
        go_wp2_with fail
        refine (unhide HA _).mono ?_
        rintro e w1 ⟨rfl, rfl⟩
        go_wp2_with fail
        refine (unhide HBB _).mono ?_
        rintro e w1 ⟨rfl, rfl⟩
        go_wp2_with fail
        refine (unhide HN _).mono ?_
        rintro e w1 ⟨rfl, rfl⟩
        go_wp2_with fail
        refine (unhide HN2 _).mono ?_
        rintro e w1 ⟨rfl, rfl⟩
        go_wp2_with fail
        refine (unhide HL _).mono ?_
        rintro e w1 ⟨rfl, rfl⟩
        go_wp2
        go_ret2
        exact ⟨by kernel_rfl, rfl⟩
      · clear hx
        go_enter Tryd.func36, Tryd.ntmps36
        go_wp2_with fail
        refine (unhide HA _).mono ?_
        rintro e w1 ⟨rfl, rfl⟩
        go_wp2_with fail
        refine (unhide HBB _).mono ?_
        rintro e w1 ⟨rfl, rfl⟩
        go_wp2_with fail
        refine (unhide HN _).mono ?_
        rintro e w1 ⟨rfl, rfl⟩
        go_wp2_with fail
        refine (unhide HN2 _).mono ?_
        rintro e w1 ⟨rfl, rfl⟩
        go_wp2_with fail
        refine (unhide HL _).mono ?_
        rintro e w1 ⟨rfl, rfl⟩
        go_wp2
        go_ret2
        exact ⟨by kernel_rfl, rfl⟩
      · exact absurd rfl hx
    · rw [hr, hr2]
      rw [show ngB W (aw W X / aw W Y) = true by unfold ngB; simp [hx2]] at hq
      clear hr hr2 hu a0 b0 hp h1 h3 hl q0 q1 hx2
      generalize aw W X = A at *
      generalize aw W Y = B at *
      rw [← hx] at hn2
      generalize ngB W X = N1 at *
      have t2 : (N1 != N1) = false := by simp
      have HA := hide ha; have HBB := hide hb; have HN := hide hn; have HN2 := hide hn2; have HQ := hide hq; clear ha hb hn hn2 hx hq
      go_enter Tryd.func36, Tryd.ntmps36
      go_wp2_with fail
      refine (unhide HA _).mono ?_
      rintro e w1 ⟨rfl, rfl⟩
      go_wp2_with fail
      refine (unhide HBB _).mono ?_
      rintro e w1 ⟨rfl, rfl⟩
      go_wp2_with fail
      refine (unhide HN _).mono ?_
      rintro e w1 ⟨rfl, rfl⟩
      go_wp2_with fail
      refine (unhide HN2 _).mono ?_
      rintro e w1 ⟨rfl, rfl⟩
      go_wp2_with fail
      refine (unhide HQ _).mono ?_
      rintro e w1 ⟨rfl, rfl⟩
      go_wp2
      go_ret2
      exact ⟨by kernel_rfl, rfl⟩
    · rw [hr, hr2]
      rw [show ngB W (aw W X / aw W Y) = false by unfold ngB; simp only [decide_eq_false_iff_not]; omega] at hq
      clear hr hr2 hu a0 b0 hp h1 h3 hl q0 q1 hx2
      generalize aw W X = A at *
      generalize aw W Y = B at *
      rw [← hx] at hn2
      generalize ngB W X = N1 at *
      have t2 : (N1 != N1) = false := by simp
      have HA := hide ha; have HBB := hide hb; have HN := hide hn; have HN2 := hide hn2; have HQ := hide hq; clear ha hb hn hn2 hx hq
      go_enter Tryd.func36, Tryd.ntmps36
      go_wp2_with fail
      refine (unhide HA _).mono ?_
      rintro e w1 ⟨rfl, rfl⟩
      go_wp2_with fail
      refine (unhide HBB _).mono ?_
      rintro e w1 ⟨rfl, rfl⟩
      go_wp2_with fail
      refine (unhide HN _).mono ?_
      rintro e w1 ⟨rfl, rfl⟩
      go_wp2_with fail
      refine (unhide HN2 _).mono ?_
      rintro e w1 ⟨rfl, rfl⟩
      go_wp2_with fail
      refine (unhide HQ _).mono ?_
      rintro e w1 ⟨rfl, rfl⟩
      go_wp2
      go_ret2
      exact ⟨by kernel_rfl, rfl⟩
end Go.Proofs.YtkmigcegeffonaaDoor
