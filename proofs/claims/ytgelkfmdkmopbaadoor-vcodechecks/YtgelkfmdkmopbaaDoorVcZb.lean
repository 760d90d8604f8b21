/- The document's ins: may an instruction be? By mkrins.py. -/
import Derived.Test.YtgelkfmdkmopbaaDoorVcZa
namespace Go.Proofs.YtgelkfmdkmopbaaDoor
open Go.RowKit
namespace Vc
set_option linter.unusedVariables false
set_option linter.unusedSimpArgs false

def insR (re : Int) (rs : Bool) (x : In) : Bool :=
  if rnm x.op = [] then false
  else if allT x.src re = false then false
  else if 0 ≤ (rsh x.op).1 ∧ ¬ (x.src.length : Int) = (rsh x.op).1 then false
  else if x.dst < -1 then false
  else if re ≤ x.dst then false
  else if ¬ (rsh x.op).2 = 2 ∧ ¬ ((rsh x.op).2 = 1 ↔ 0 ≤ x.dst) then false
  else if x.op = 17 ∧ (x.src.length : Int) = 0 then false
  else if ¬ x.of = 0 ∧ acc x.op = false then false
  else if x.op = 15 then decide ((x.src.length : Int) = if rs then 1 else 0) && decide (x.n = 0)
  else if x.op = 35 ∨ x.op = 36 ∨ x.op = 16 ∨ x.op = 17 then decide (0 ≤ x.n)
  else if x.op = 66 then true
  else decide (x.n = 0)
/-- what an instruction's number says of it, the document's and ops' -/
def okO (n : Nat) (r : Bool) : Bool := match shp n r with
  | none => rnm n == []
  | some s => !(rnm n == []) && (if n = 15 then s.t == (if r then 1 else 0) && !s.m && !s.g && !s.e && rsh n == (-1, 0)
      else if n = 16 then s.t == 0 && s.m && s.e && rsh n == (-1, 2)
      else if n = 17 then s.t == 1 && s.m && s.e && rsh n == (-1, 2)
      else !s.m && !s.e && (rsh n == (s.t, if s.g then 1 else 0)) && decide (0 ≤ s.t))
set_option maxRecDepth 100000 in
theorem okO_all : ((List.range 256).all fun n => okO n true && okO n false) = true := by kernel_rfl
theorem okO_at (n : Nat) (hn : n < 256) (r : Bool) : okO n r = true := by
  have h := List.all_eq_true.1 okO_all n (List.mem_range.2 hn)
  rw [Bool.and_eq_true] at h
  cases r
  · exact h.2
  · exact h.1
theorem insR_eq (re : Int) (rs : Bool) (x : In) (hx : x.op < 256) : insR re rs x = insM re rs x := by
  have ho := okO_at x.op hx rs
  obtain ⟨op, dst, src, n, of⟩ := x
  simp only at *
  unfold okO at ho
  unfold insR insM may1
  simp only
  cases hs : shp op rs with
  | none =>
    rw [hs] at ho
    have hr : rnm op = [] := by simpa using ho
    rw [if_pos hr]; simp
  | some s =>
    rw [hs] at ho
    simp only [Bool.and_eq_true, Bool.not_eq_true', beq_eq_false_iff_ne, ne_eq] at ho
    obtain ⟨hr, ho⟩ := ho
    rw [if_neg hr]
    cases hal : allT src re with
    | false => simp
    | true =>
    simp only [Bool.true_eq_false, if_false, Bool.and_true]
    unfold mayS numM
    simp only
    obtain ⟨st, sm, sg, se⟩ := s
    simp only at ho ⊢
    have hL0 : (0 : Int) ≤ (src.length : Int) := by omega
    generalize (src.length : Int) = L at *
    generalize acc op = A at *
    by_cases h15 : op = 15
    · subst h15
      have hnd : numd 15 = false := by decide
      rw [if_pos rfl] at ho
      simp only [Bool.and_eq_true, Bool.not_eq_true', beq_iff_eq] at ho
      obtain ⟨⟨⟨⟨h1, rfl⟩, rfl⟩, rfl⟩, h5⟩ := ho
      rw [h5, hnd, h1]
      cases rs <;> cases A <;> rw [Bool.eq_iff_iff] <;> simp <;> omega
    rw [if_neg h15] at ho
    by_cases h16 : op = 16
    · subst h16
      have hnd : numd 16 = true := by decide
      rw [if_pos rfl] at ho
      simp only [Bool.and_eq_true, beq_iff_eq] at ho
      obtain ⟨⟨⟨h1, rfl⟩, rfl⟩, h5⟩ := ho
      rw [h5, hnd, h1]
      cases A <;> rw [Bool.eq_iff_iff] <;> simp <;> omega
    rw [if_neg h16] at ho
    by_cases h17 : op = 17
    · subst h17
      have hnd : numd 17 = true := by decide
      rw [if_pos rfl] at ho
      simp only [Bool.and_eq_true, beq_iff_eq] at ho
      obtain ⟨⟨⟨h1, rfl⟩, rfl⟩, h5⟩ := ho
      rw [h5, hnd, h1]
      cases A <;> rw [Bool.eq_iff_iff] <;> simp <;> omega
    rw [if_neg h17] at ho
    simp only [Bool.and_eq_true, Bool.not_eq_true', beq_iff_eq, decide_eq_true_eq] at ho
    obtain ⟨⟨⟨rfl, rfl⟩, h5⟩, h6⟩ := ho
    have hnd : numd op = decide (op = 66 ∨ op = 35 ∨ op = 36) := by unfold numd; simp [h16, h17]
    rw [h5, hnd]
    by_cases h66 : op = 66
    · subst h66
      cases A <;> cases sg <;> rw [Bool.eq_iff_iff] <;> simp <;> omega
    by_cases h35 : op = 35
    · subst h35
      cases A <;> cases sg <;> rw [Bool.eq_iff_iff] <;> simp <;> omega
    by_cases h36 : op = 36
    · subst h36
      cases A <;> cases sg <;> rw [Bool.eq_iff_iff] <;> simp <;> omega
    cases A <;> cases sg <;> rw [Bool.eq_iff_iff] <;> simp [h15, h16, h17, h66, h35, h36] <;> omega
end Vc
end Go.Proofs.YtgelkfmdkmopbaaDoor
