/- K22: what follows, part by part: each part tells what it holds. -/
import Derived.Test.YtglehoekehiaiaaGreatDoorK21
import Derived.Test.YtglehoekehiaiaaGreatDoorK18
import Derived.Test.YtglehoekehiaiaaGreatDoorK10
namespace Go.Proofs.YtglehoekehiaiaaGreatDoor
open Go.RowKit
set_option linter.unusedVariables false
set_option linter.unusedSimpArgs false
set_option maxRecDepth 100000
set_option maxHeartbeats 32000000
/- mandrelref04.Name of every number; Op. -/
theorem gap_all : ∀ n, n < 256 → ((5 ≤ n ∧ n ≤ 11) ∨ (18 ≤ n ∧ n ≤ 25) ∨ (28 ≤ n ∧ n ≤ 31) ∨ (37 ≤ n ∧ n ≤ 39) ∨ (42 ≤ n ∧ n ≤ 43) ∨ (56 ≤ n ∧ n ≤ 57) ∨ (168 ≤ n ∧ n ≤ 171) ∨ (174 ≤ n ∧ n ≤ 255)) → nm n = [] := by decide
theorem two_b : ((List.range 256).all fun n => !(decide (67 ≤ n) && decide (n ≤ 166)) || ((qn n).1 == [] && (qn n).2 == 0 && nm n == []) || ((qn n).2 == 32 && nm n == [105, 51, 50, 46] ++ (qn n).1 && !((qn n).1 == []) && decide ((qn n).1.length < 100)) || ((qn n).2 == 64 && nm n == [105, 54, 52, 46] ++ (qn n).1 && !((qn n).1 == []) && decide ((qn n).1.length < 100))) = true := by kernel_rfl
theorem two_all (n : Nat) (hn : n < 256) (h : 67 ≤ n ∧ n ≤ 166) : ((qn n = ([], 0) ∧ nm n = []) ∨ (qn n = ((qn n).1, 32) ∧ nm n = [105, 51, 50, 46] ++ (qn n).1 ∧ (qn n).1 ≠ [] ∧ (qn n).1.length < 100) ∨ (qn n = ((qn n).1, 64) ∧ nm n = [105, 54, 52, 46] ++ (qn n).1 ∧ (qn n).1 ≠ [] ∧ (qn n).1.length < 100)) := by
  have h1 := List.all_eq_true.1 two_b n (List.mem_range.2 hn)
  generalize qn n = x at *
  generalize nm n = y at *
  obtain ⟨x1, x2⟩ := x
  simp only [h.1, h.2, decide_true, Bool.and_true, Bool.not_true, Bool.false_or, Bool.or_eq_true, Bool.and_eq_true, beq_iff_eq, Bool.not_eq_true', beq_eq_false_iff_ne, decide_eq_true_eq] at h1
  rcases h1 with (⟨⟨h1, h2⟩, h3⟩ | ⟨⟨⟨h1, h2⟩, h3⟩, h4⟩) | ⟨⟨⟨h1, h2⟩, h3⟩, h4⟩
  · subst h1 h2; exact .inl ⟨rfl, h3⟩
  · subst h1; exact .inr (.inl ⟨rfl, h2, h3, h4⟩)
  · subst h1; exact .inr (.inr ⟨rfl, h2, h3, h4⟩)
theorem own_all : (∀ k, k < 5 → c1.getD k [] = nm k) ∧ (∀ k, k < 6 → c2.getD k [] = nm (12 + k)) ∧ (∀ k, k < 5 → c3.getD k [] = nm (32 + k)) ∧ (∀ k, k < 12 → c4.getD k [] = nm (44 + k)) ∧ (∀ k, k < 9 → c5.getD k [] = nm (58 + k)) := by decide
theorem namer_any (n : Nat) (hn : n < 256) : NameIs n (nm n) := by
  intro w
  by_cases a0 : n < 5
  · have := rn_0 (n - 0) (by omega) w
    rw [own_all.1 (n - 0) (by omega)] at this
    exact this
  by_cases a1 : 12 ≤ n ∧ n < 18
  · have := rn_12 (n - 12) (by omega) w
    rw [own_all.2.1 (n - 12) (by omega)] at this
    rw [show (12 : Int) + ((n - 12 : Nat) : Int) = n by omega, show 12 + (n - 12) = n by omega] at this
    exact this
  by_cases a2 : 32 ≤ n ∧ n < 37
  · have := rn_32 (n - 32) (by omega) w
    rw [own_all.2.2.1 (n - 32) (by omega)] at this
    rw [show (32 : Int) + ((n - 32 : Nat) : Int) = n by omega, show 32 + (n - 32) = n by omega] at this
    exact this
  by_cases a3 : 44 ≤ n ∧ n < 56
  · have := rn_44 (n - 44) (by omega) w
    rw [own_all.2.2.2.1 (n - 44) (by omega)] at this
    rw [show (44 : Int) + ((n - 44 : Nat) : Int) = n by omega, show 44 + (n - 44) = n by omega] at this
    exact this
  by_cases a4 : 58 ≤ n ∧ n < 67
  · have := rn_58 (n - 58) (by omega) w
    rw [own_all.2.2.2.2 (n - 58) (by omega)] at this
    rw [show (58 : Int) + ((n - 58 : Nat) : Int) = n by omega, show 58 + (n - 58) = n by omega] at this
    exact this
  by_cases e26 : n = 26
  · subst e26; exact rn_26 w
  by_cases e27 : n = 27
  · subst e27; exact rn_27 w
  by_cases e40 : n = 40
  · subst e40; exact rn_40 w
  by_cases e41 : n = 41
  · subst e41; exact rn_41 w
  by_cases e167 : n = 167
  · subst e167; exact rn_167 w
  by_cases e172 : n = 172
  · subst e172; exact rn_172 w
  by_cases e173 : n = 173
  · subst e173; exact rn_173 w
  by_cases b : 67 ≤ n ∧ n ≤ 166
  · have hq := fun wx => nam_any n hn wx
    rcases two_all n hn b with ⟨h1, h2⟩ | ⟨h1, h2, h3, h4⟩ | ⟨h1, h2, h3, h4⟩
    · rw [h1] at hq
      rw [h2]
      exact rg_67e n (by omega) (by omega) hq w
    · rw [h2]
      rw [h1] at hq
      exact rg_67i n (by omega) (by omega) _ h3 h4 hq w
    · rw [h2]
      rw [h1] at hq
      exact rg_67l n (by omega) (by omega) _ h3 h4 hq w
  have hg : (5 ≤ n ∧ n ≤ 11) ∨ (18 ≤ n ∧ n ≤ 25) ∨ (28 ≤ n ∧ n ≤ 31) ∨ (37 ≤ n ∧ n ≤ 39) ∨ (42 ≤ n ∧ n ≤ 43) ∨ (56 ≤ n ∧ n ≤ 57) ∨ (168 ≤ n ∧ n ≤ 171) ∨ (174 ≤ n ∧ n ≤ 255) := by omega
  rw [gap_all n hn hg]
  have hq := fun wx => nam_bad n hn (by omega) ⟨e167, e172, e173⟩ wx
  rcases hg with ⟨g1, g2⟩ | ⟨g1, g2⟩ | ⟨g1, g2⟩ | ⟨g1, g2⟩ | ⟨g1, g2⟩ | ⟨g1, g2⟩ | ⟨g1, g2⟩ | ⟨g1, g2⟩
  · exact rg_5e n (by omega) (by omega) hq w
  · exact rg_18e n (by omega) (by omega) hq w
  · exact rg_28e n (by omega) (by omega) hq w
  · exact rg_37e n (by omega) (by omega) hq w
  · exact rg_42e n (by omega) (by omega) hq w
  · exact rg_56e n (by omega) (by omega) hq w
  · exact rg_168e n (by omega) (by omega) hq w
  · exact rg_174e n (by omega) (by omega) hq w
/- What the document says of every number's form: held against ops' tables. -/
/-- all that is to be held against each other, at one number -/
def okAt (n : Nat) : Bool :=
  if nm n == [] then (fam n).isNone
  else match fam n with
    | none => false
    | some x => x.o == formF (nm n) && decide ((nm n).length < 100)
theorem ok_all : ((List.range 256).all okAt) = true := by kernel_rfl
theorem ok_none (n : Nat) (hn : n < 256) (h : nm n = []) : fam n = none := by
  have h1 := List.all_eq_true.1 ok_all n (List.mem_range.2 hn)
  unfold okAt at h1
  rw [h] at h1
  simpa using h1
theorem ok_some (n : Nat) (hn : n < 256) (h : nm n ≠ []) : ∃ x, fam n = some x ∧ x.o = formF (nm n) ∧ (nm n).length < 100 := by
  have h1 := List.all_eq_true.1 ok_all n (List.mem_range.2 hn)
  unfold okAt at h1
  have hb : (nm n == []) = false := by simpa using h
  rw [hb] at h1
  cases hx : fam n with
  | none => rw [hx] at h1; simp at h1
  | some x =>
    rw [hx] at h1
    simp only [Bool.false_eq_true, if_false, Bool.and_eq_true, decide_eq_true_eq, beq_iff_eq] at h1
    exact ⟨x, rfl, h1.1, h1.2⟩
theorem formr_all (n : Nat) (hn : n < 256) : FormIs n (((fam n).map (·.o)).getD 0) (fam n).isSome := by
  by_cases h : nm n = []
  · rw [ok_none n hn h]
    have hN := namer_any n hn
    rw [h] at hN; exact f_none n hN
  · obtain ⟨y, e1, e2, e3⟩ := ok_some n hn h
    rw [e1]
    have := formr_any n _ (namer_any n hn) h e3
    rw [← e2] at this
    exact this
namespace Vc
/- The document's Name, Ends, Memory, Pure of an instruction. -/
/-- which numbers the document's Name hands on -/
def rsp (n : Nat) : Bool := decide (n = 15 ∨ n = 0 ∨ n = 16 ∨ n = 17 ∨ n = 27 ∨ n = 35 ∨ n = 36)
def rnm (n : Nat) : List UInt8 :=
  if n = 66 then [99, 111, 110, 115, 116]
  else if n = 192 then [109, 111, 118, 101]
  else if n = 193 then [106, 117, 109, 112]
  else if n = 194 then [98, 114, 97, 110, 99, 104]
  else if n = 195 then [116, 97, 98, 108, 101]
  else if rsp n then nm n
  else if decide (40 ≤ n) && !decide (n = 65) then nm n
  else []
theorem rnm_any (n : Nat) (hn : n < 256) (w : World) :
    Calls Tryz.prog 35 #[.int .u8 n] w fun e w' => e = .returned (.string (str (rnm n))) ∧ Below w.heap.size w w' := by
  by_cases h0 : n = 66 ∨ n = 192 ∨ n = 193 ∨ n = 194 ∨ n = 195
  · rcases h0 with rfl | rfl | rfl | rfl | rfl
    all_goals
      go_enter Tryz.func35, Tryz.ntmps35
      go_wp2
      go_ret
      exact ⟨rfl, Below.refl _ _⟩
  have hc := namer_any n hn w
  by_cases h1 : n = 15 ∨ n = 0 ∨ n = 16 ∨ n = 17 ∨ n = 27 ∨ n = 35 ∨ n = 36
  · rcases h1 with rfl | rfl | rfl | rfl | rfl | rfl | rfl
    all_goals
      have HC := hide hc
      clear hc h0
      go_enter Tryz.func35, Tryz.ntmps35
      go_wp2_with fail
      refine (unhide HC).mono ?_
      rintro e w1 ⟨rfl, hb⟩
      have HB := hide hb; clear hb
      go_wp2
      go_ret
      exact ⟨rfl, unhide HB⟩
  have t0 : ((n : Int) == 66) = false := by simp; omega
  have t1 : ((n : Int) == 192) = false := by simp; omega
  have t2 : ((n : Int) == 193) = false := by simp; omega
  have t3 : ((n : Int) == 194) = false := by simp; omega
  have t4 : ((n : Int) == 195) = false := by simp; omega
  have u0 : ((n : Int) == 15) = false := by simp; omega
  have u1 : ((n : Int) == 0) = false := by simp; omega
  have u2 : ((n : Int) == 16) = false := by simp; omega
  have u3 : ((n : Int) == 17) = false := by simp; omega
  have u4 : ((n : Int) == 27) = false := by simp; omega
  have u5 : ((n : Int) == 35) = false := by simp; omega
  have u6 : ((n : Int) == 36) = false := by simp; omega
  have hr : rnm n = if decide (40 ≤ n) && !decide (n = 65) then nm n else [] := by
    unfold rnm rsp
    rw [if_neg (by omega), if_neg (by omega), if_neg (by omega), if_neg (by omega), if_neg (by omega), if_neg (by simpa using h1)]
  by_cases h2 : (40 : Int) ≤ n
  · by_cases h3 : (n : Int) = 65
    · have HR := hide (show rnm n = [] by rw [hr, if_neg (by simp; omega)])
      have t5 : ((n : Int) != 65) = false := by simpa using h3
      have hne : n = 65 := by omega
      subst hne
      clear hr h0 h1 hc t0 t1 t2 t3 t4 u0 u1 u2 u3 u4 u5 u6 h2 h3 t5
      go_enter Tryz.func35, Tryz.ntmps35
      go_wp2
      go_ret
      exact ⟨by rw [unhide HR]; rfl, Below.refl _ _⟩
    · have HR := hide (show rnm n = nm n by rw [hr, if_pos (by simp; omega)])
      have t5 : ((n : Int) != 65) = true := by simpa using h3
      have HC := hide hc
      clear hr h0 h1 hc h3
      generalize nm n = l at *
      go_enter Tryz.func35, Tryz.ntmps35
      go_wp2_with fail
      refine (unhide HC).mono ?_
      rintro e w1 ⟨rfl, hb⟩
      have HB := hide hb; clear hb
      go_wp2
      go_ret
      exact ⟨by rw [unhide HR]; rfl, unhide HB⟩
  · have HR := hide (show rnm n = [] by rw [hr, if_neg (by simp; omega)])
    have t6 : decide ((n : Int) ≥ 40) = false := by simp; omega
    have t7 : decide ((40 : Int) ≤ n) = false := by simp; omega
    clear hr h0 h1 hc h2
    go_enter Tryz.func35, Tryz.ntmps35
    go_wp2
    go_ret
    exact ⟨by rw [unhide HR]; rfl, Below.refl _ _⟩
theorem rends_any (n : Nat) (hn : n < 256) (w : World) :
    Calls Tryz.prog 34 #[.int .u8 n] w fun e w' => e = .returned (.bool (ends n)) ∧ w' = w := by
  by_cases h0 : n = 193 ∨ n = 194 ∨ n = 195 ∨ n = 15 ∨ n = 0
  · rcases h0 with rfl | rfl | rfl | rfl | rfl
    all_goals
      go_enter Tryz.func34, Tryz.ntmps34
      go_wp2
      go_ret
      exact ⟨rfl, rfl⟩
  have HR := hide (show ends n = false by unfold ends; simp; omega)
  have t2 : ((n : Int) == 193) = false := by simp; omega
  have t3 : ((n : Int) == 194) = false := by simp; omega
  have t4 : ((n : Int) == 195) = false := by simp; omega
  have u0 : ((n : Int) == 15) = false := by simp; omega
  have u1 : ((n : Int) == 0) = false := by simp; omega
  clear h0
  go_enter Tryz.func34, Tryz.ntmps34
  go_wp2
  go_ret
  exact ⟨ret_bool (unhide HR).symm, rfl⟩
theorem rmem_any (n : Nat) (hn : n < 256) (w : World) :
    Calls Tryz.prog 60 #[.int .u8 n] w fun e w' => e = .returned (.bool (acc n)) ∧ Below w.heap.size w w' := by
  have hc := formr_all n hn w
  unfold acc
  cases hf : fam n with
  | none =>
    rw [hf] at hc
    simp only [Option.map_none, Option.getD_none, Option.isSome_none] at hc
    have HC := hide hc
    clear hc hf
    go_enter Tryz.func60, Tryz.ntmps60
    go_wp2_with fail
    refine (unhide HC).mono ?_
    rintro e w1 ⟨rfl, hb⟩
    have HB := hide hb; clear hb
    go_wp2
    go_ret
    exact ⟨rfl, unhide HB⟩
  | some x =>
    rw [hf] at hc
    simp only [Option.map_some, Option.getD_some, Option.isSome_some] at hc ⊢
    have HC := hide hc
    generalize x.o = xo at *
    clear hc hf
    go_enter Tryz.func60, Tryz.ntmps60
    go_wp2_with fail
    refine (unhide HC).mono ?_
    rintro e w1 ⟨rfl, hb⟩
    have HB := hide hb; clear hb
    go_wp2
    go_ret
    exact ⟨rfl, unhide HB⟩
end Vc
end Go.Proofs.YtglehoekehiaiaaGreatDoor
