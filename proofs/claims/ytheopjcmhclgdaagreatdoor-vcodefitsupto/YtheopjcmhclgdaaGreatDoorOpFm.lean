/- What the document says of every number's form: held against ops' tables. -/
import Derived.Test.YtheopjcmhclgdaaGreatDoorRfG
import Derived.Test.YtheopjcmhclgdaaGreatDoorRfW
namespace Go.Proofs.YtheopjcmhclgdaaGreatDoor
open Go.RowKit
set_option linter.unusedVariables false

/-- all that is to be held against each other, at one number -/
def okAt (n : Nat) : Bool :=
  if nm n == [] then (fam n).isNone
  else match fam n with
    | none => false
    | some x => x.o == formF (nm n) && decide ((nm n).length < 100)
set_option maxRecDepth 100000 in
theorem ok_all : ((List.range 256).all okAt) = true := by kernel_rfl
theorem ok_none (n : Nat) (hn : n < 256) (h : nm n = []) : fam n = none := by
  have h1 := List.all_eq_true.1 ok_all n (List.mem_range.2 hn)
  unfold okAt at h1
  rw [h] at h1
  simpa using h1
theorem ok_some (n : Nat) (hn : n < 256) (h : nm n ≠ []) : ∃ x, fam n = some x ∧ x.o = formF (nm n) ∧ (nm n).length < 100 := by
  have h1 := List.all_eq_true.1 ok_all n (List.mem_range.2 hn)
  unfold okAt at h1
  have hb : (nm n == []) = false := by simpa using h
  rw [hb] at h1
  cases hx : fam n with
  | none => rw [hx] at h1; simp at h1
  | some x =>
    rw [hx] at h1
    simp only [Bool.false_eq_true, if_false, Bool.and_eq_true, decide_eq_true_eq, beq_iff_eq] at h1
    exact ⟨x, rfl, h1.1, h1.2⟩
theorem formr_all (n : Nat) (hn : n < 256) : FormIs n (((fam n).map (·.o)).getD 0) (fam n).isSome := by
  by_cases h : nm n = []
  · rw [ok_none n hn h]
    have hN := namer_any n hn
    rw [h] at hN; exact f_none n hN
  · obtain ⟨y, e1, e2, e3⟩ := ok_some n hn h
    rw [e1]
    have := formr_any n _ (namer_any n hn) h e3
    rw [← e2] at this
    exact this
end Go.Proofs.YtheopjcmhclgdaaGreatDoor
