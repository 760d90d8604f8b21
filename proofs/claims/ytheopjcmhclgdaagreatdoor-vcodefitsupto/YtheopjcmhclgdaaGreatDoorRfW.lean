/- mandrelref04.Name of every number; Op. -/
import Derived.Test.YtheopjcmhclgdaaGreatDoorRfD
import Derived.Test.YtheopjcmhclgdaaGreatDoorRfF
namespace Go.Proofs.YtheopjcmhclgdaaGreatDoor
open Go.RowKit
set_option linter.unusedVariables false

set_option maxRecDepth 100000 in
theorem gap_all : ∀ n, n < 256 → ((5 ≤ n ∧ n ≤ 11) ∨ (18 ≤ n ∧ n ≤ 25) ∨ (28 ≤ n ∧ n ≤ 31) ∨ (37 ≤ n ∧ n ≤ 39) ∨ (42 ≤ n ∧ n ≤ 43) ∨ (56 ≤ n ∧ n ≤ 57) ∨ (168 ≤ n ∧ n ≤ 171) ∨ (174 ≤ n ∧ n ≤ 255)) → nm n = [] := by decide
set_option maxRecDepth 100000 in
theorem two_b : ((List.range 256).all fun n => !(decide (67 ≤ n) && decide (n ≤ 166)) || ((qn n).1 == [] && (qn n).2 == 0 && nm n == []) || ((qn n).2 == 32 && nm n == [105, 51, 50, 46] ++ (qn n).1 && !((qn n).1 == []) && decide ((qn n).1.length < 100)) || ((qn n).2 == 64 && nm n == [105, 54, 52, 46] ++ (qn n).1 && !((qn n).1 == []) && decide ((qn n).1.length < 100))) = true := by kernel_rfl
theorem two_all (n : Nat) (hn : n < 256) (h : 67 ≤ n ∧ n ≤ 166) : ((qn n = ([], 0) ∧ nm n = []) ∨ (qn n = ((qn n).1, 32) ∧ nm n = [105, 51, 50, 46] ++ (qn n).1 ∧ (qn n).1 ≠ [] ∧ (qn n).1.length < 100) ∨ (qn n = ((qn n).1, 64) ∧ nm n = [105, 54, 52, 46] ++ (qn n).1 ∧ (qn n).1 ≠ [] ∧ (qn n).1.length < 100)) := by
  have h1 := List.all_eq_true.1 two_b n (List.mem_range.2 hn)
  generalize qn n = x at *
  generalize nm n = y at *
  obtain ⟨x1, x2⟩ := x
  simp only [h.1, h.2, decide_true, Bool.and_true, Bool.not_true, Bool.false_or, Bool.or_eq_true, Bool.and_eq_true, beq_iff_eq, Bool.not_eq_true', beq_eq_false_iff_ne, decide_eq_true_eq] at h1
  rcases h1 with (⟨⟨h1, h2⟩, h3⟩ | ⟨⟨⟨h1, h2⟩, h3⟩, h4⟩) | ⟨⟨⟨h1, h2⟩, h3⟩, h4⟩
  · subst h1 h2; exact .inl ⟨rfl, h3⟩
  · subst h1; exact .inr (.inl ⟨rfl, h2, h3, h4⟩)
  · subst h1; exact .inr (.inr ⟨rfl, h2, h3, h4⟩)
set_option maxRecDepth 100000 in
theorem own_all : (∀ k, k < 5 → c1.getD k [] = nm k) ∧ (∀ k, k < 6 → c2.getD k [] = nm (12 + k)) ∧ (∀ k, k < 5 → c3.getD k [] = nm (32 + k)) ∧ (∀ k, k < 12 → c4.getD k [] = nm (44 + k)) ∧ (∀ k, k < 9 → c5.getD k [] = nm (58 + k)) := by decide
set_option maxRecDepth 100000 in
theorem namer_any (n : Nat) (hn : n < 256) : NameIs n (nm n) := by
  intro w
  by_cases a0 : n < 5
  · have := rn_0 (n - 0) (by omega) w
    rw [own_all.1 (n - 0) (by omega)] at this
    exact this
  by_cases a1 : 12 ≤ n ∧ n < 18
  · have := rn_12 (n - 12) (by omega) w
    rw [own_all.2.1 (n - 12) (by omega)] at this
    rw [show (12 : Int) + ((n - 12 : Nat) : Int) = n by omega, show 12 + (n - 12) = n by omega] at this
    exact this
  by_cases a2 : 32 ≤ n ∧ n < 37
  · have := rn_32 (n - 32) (by omega) w
    rw [own_all.2.2.1 (n - 32) (by omega)] at this
    rw [show (32 : Int) + ((n - 32 : Nat) : Int) = n by omega, show 32 + (n - 32) = n by omega] at this
    exact this
  by_cases a3 : 44 ≤ n ∧ n < 56
  · have := rn_44 (n - 44) (by omega) w
    rw [own_all.2.2.2.1 (n - 44) (by omega)] at this
    rw [show (44 : Int) + ((n - 44 : Nat) : Int) = n by omega, show 44 + (n - 44) = n by omega] at this
    exact this
  by_cases a4 : 58 ≤ n ∧ n < 67
  · have := rn_58 (n - 58) (by omega) w
    rw [own_all.2.2.2.2 (n - 58) (by omega)] at this
    rw [show (58 : Int) + ((n - 58 : Nat) : Int) = n by omega, show 58 + (n - 58) = n by omega] at this
    exact this
  by_cases e26 : n = 26
  · subst e26; exact rn_26 w
  by_cases e27 : n = 27
  · subst e27; exact rn_27 w
  by_cases e40 : n = 40
  · subst e40; exact rn_40 w
  by_cases e41 : n = 41
  · subst e41; exact rn_41 w
  by_cases e167 : n = 167
  · subst e167; exact rn_167 w
  by_cases e172 : n = 172
  · subst e172; exact rn_172 w
  by_cases e173 : n = 173
  · subst e173; exact rn_173 w
  by_cases b : 67 ≤ n ∧ n ≤ 166
  · have hq := fun wx => nam_any n hn wx
    rcases two_all n hn b with ⟨h1, h2⟩ | ⟨h1, h2, h3, h4⟩ | ⟨h1, h2, h3, h4⟩
    · rw [h1] at hq
      rw [h2]
      exact rg_67e n (by omega) (by omega) hq w
    · rw [h2]
      rw [h1] at hq
      exact rg_67i n (by omega) (by omega) _ h3 h4 hq w
    · rw [h2]
      rw [h1] at hq
      exact rg_67l n (by omega) (by omega) _ h3 h4 hq w
  have hg : (5 ≤ n ∧ n ≤ 11) ∨ (18 ≤ n ∧ n ≤ 25) ∨ (28 ≤ n ∧ n ≤ 31) ∨ (37 ≤ n ∧ n ≤ 39) ∨ (42 ≤ n ∧ n ≤ 43) ∨ (56 ≤ n ∧ n ≤ 57) ∨ (168 ≤ n ∧ n ≤ 171) ∨ (174 ≤ n ∧ n ≤ 255) := by omega
  rw [gap_all n hn hg]
  have hq := fun wx => nam_bad n hn (by omega) ⟨e167, e172, e173⟩ wx
  rcases hg with ⟨g1, g2⟩ | ⟨g1, g2⟩ | ⟨g1, g2⟩ | ⟨g1, g2⟩ | ⟨g1, g2⟩ | ⟨g1, g2⟩ | ⟨g1, g2⟩ | ⟨g1, g2⟩
  · exact rg_5e n (by omega) (by omega) hq w
  · exact rg_18e n (by omega) (by omega) hq w
  · exact rg_28e n (by omega) (by omega) hq w
  · exact rg_37e n (by omega) (by omega) hq w
  · exact rg_42e n (by omega) (by omega) hq w
  · exact rg_56e n (by omega) (by omega) hq w
  · exact rg_168e n (by omega) (by omega) hq w
  · exact rg_174e n (by omega) (by omega) hq w
end Go.Proofs.YtheopjcmhclgdaaGreatDoor
