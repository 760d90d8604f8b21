/- What the document says of every number: held against ops' tables. -/
import Derived.Test.YtcljcnaglkbjcaaGreatDoorRfU
import Derived.Test.YtcljcnaglkbjcaaGreatDoorRfV
import Derived.Test.YtcljcnaglkbjcaaGreatDoorRfW
namespace Go.Proofs.YtcljcnaglkbjcaaGreatDoor
open Go.RowKit
set_option linter.unusedVariables false

def SIZE : List UInt8 := [109, 101, 109, 111, 114, 121, 46, 115, 105, 122, 101]
def GROW : List UInt8 := [109, 101, 109, 111, 114, 121, 46, 103, 114, 111, 119]
/-- all that is to be held against each other, at one number -/
def okAt (n : Nat) : Bool :=
  if nm n == [] then (fam n).isNone && ab n == 0
  else match fam n with
    | none => false
    | some x => x.o == formF (nm n) && decide ((nm n).length < 100) && (decide (n ≤ 36) || decide (signF (nm n) (qn n).1 (qn n).2 = (pk x.x x.y 2, x.g)))
      && (ab n == 0) == !(formF (nm n) == 4) && (!(formF (nm n) == 4) || decide (4 ≤ (nm n).length))
      && (decide (n ≤ 36) || formF (nm n) == 1 || formF (nm n) == 2 || formF (nm n) == 4 || nm n == SIZE || nm n == GROW || (qn n).2 == 32 || (qn n).2 == 64)
      && (decide (36 < n) || ab n == 0)
set_option maxRecDepth 100000 in
theorem ok_all : ((List.range 256).all okAt) = true := by kernel_rfl
theorem ok_none (n : Nat) (hn : n < 256) (h : nm n = []) : fam n = none ∧ ab n = 0 := by
  have h1 := List.all_eq_true.1 ok_all n (List.mem_range.2 hn)
  unfold okAt at h1
  rw [h] at h1
  simpa using h1
theorem ok_some (n : Nat) (hn : n < 256) (h : nm n ≠ []) : ∃ x, fam n = some x ∧ x.o = formF (nm n) ∧ (nm n).length < 100 ∧ (36 < n → signF (nm n) (qn n).1 (qn n).2 = (pk x.x x.y 2, x.g)) ∧ (ab n = 0 ↔ ¬ formF (nm n) = 4) ∧ (formF (nm n) = 4 → 4 ≤ (nm n).length)
    ∧ (36 < n → ¬ formF (nm n) = 1 → ¬ formF (nm n) = 2 → ¬ formF (nm n) = 4 → ¬ nm n = SIZE → ¬ nm n = GROW → (qn n).2 = 32 ∨ (qn n).2 = 64) ∧ (n ≤ 36 → ab n = 0) := by
  have h1 := List.all_eq_true.1 ok_all n (List.mem_range.2 hn)
  unfold okAt at h1
  have hb : (nm n == []) = false := by simpa using h
  rw [hb] at h1
  cases hx : fam n with
  | none => rw [hx] at h1; simp at h1
  | some x =>
    rw [hx] at h1
    simp only [Bool.false_eq_true, if_false, Bool.and_eq_true, Bool.or_eq_true, decide_eq_true_eq, beq_iff_eq, Bool.not_eq_true', beq_eq_false_iff_ne, ne_eq] at h1
    obtain ⟨⟨⟨⟨⟨⟨a1, a2⟩, a3⟩, a4⟩, a5⟩, a6⟩, a7⟩ := h1
    refine ⟨x, rfl, a1, a2, fun g => a3.resolve_left (by omega), ?_, fun g => a5.resolve_left (by simp [g]), fun g b1 b2 b3 b4 b5 => ?_, fun g => a7.resolve_left (by omega)⟩
    · constructor
      · intro e
        have e1 : (ab n == 0) = true := by simpa using e
        rw [e1] at a4
        simpa using a4.symm
      · intro e
        have e1 : (!(formF (nm n) == 4)) = true := by simpa using e
        rw [e1] at a4
        simpa using a4
    · rcases a6 with ((((((c | c) | c) | c) | c) | c) | c) | c
      · omega
      · exact absurd c b1
      · exact absurd c b2
      · exact absurd c b3
      · exact absurd c b4
      · exact absurd c b5
      · exact .inl c
      · exact .inr c
/-- the document's Sign -/
theorem signr_at (n : Nat) (hn : n < 256) (h36 : 36 < n) (h : nm n ≠ []) (x : Fam) (hx : fam n = some x) : SignIs n (pk x.x x.y 2) x.g true := by
  obtain ⟨y, e1, e2, e3, e4, e5, e6, e7, e8⟩ := ok_some n hn h
  obtain rfl : y = x := Option.some.inj (e1.symm.trans hx)
  have := signr_any n (nm n) (namer_any n hn) h e3 (by omega) hn (qn n).1 (qn n).2 (e7 h36) e6 (fun w => nam_any n hn w)
  rw [e4 h36] at this
  exact this
theorem signr_no (n : Nat) (hn : n < 256) (h : nm n = [] ∨ n ≤ 36) : SignIs n [] 0 false := by
  have hN := namer_any n hn
  by_cases he : nm n = []
  · rw [he] at hN; exact s_none n hN
  · exact s_low n _ hN he (by rcases h with h | h; exact absurd h he; omega)
theorem formr_no (n : Nat) (hn : n < 256) (h : nm n = []) : FormIs n 0 false := by
  have hN := namer_any n hn
  rw [h] at hN; exact f_none n hN
theorem formr_at (n : Nat) (hn : n < 256) (h : nm n ≠ []) (x : Fam) (hx : fam n = some x) : FormIs n x.o true := by
  obtain ⟨y, e1, e2, e3, _⟩ := ok_some n hn h
  obtain rfl : y = x := Option.some.inj (e1.symm.trans hx)
  rw [e2]
  exact formr_any n _ (namer_any n hn) h e3
theorem bytesr_no (n : Nat) (hn : n < 256) (h : ab n = 0) : BytesIs n 0 false false := by
  have hN := namer_any n hn
  by_cases he : nm n = []
  · have hf := formr_no n hn he
    rw [he] at hN; exact y_none n hN hf
  · obtain ⟨y, e1, e2, e3, e4, e5, _⟩ := ok_some n hn he
    have hf := formr_any n _ hN he e3
    exact y_not n _ hN he _ hf (by simpa using e5.1 h)
set_option maxRecDepth 100000 in
theorem acc_mem : ∀ n, n < 63 → ab n ≠ 0 → n ∈ [40, 41, 44, 45, 46, 47, 48, 49, 50, 51, 52, 53, 54, 55, 58, 59, 60, 61, 62] := by decide
set_option maxRecDepth 100000 in
theorem bytesr_at (n : Nat) (h : ab n ≠ 0) : BytesIs n (ab n) (sfx (nm n)) true := by
  have hl : n < 63 := by
    by_cases hl : n < abs'.length
    · exact hl
    · exact absurd (by unfold ab; simp [List.getD, hl]) h
  have hc : n ∈ [40, 41, 44, 45, 46, 47, 48, 49, 50, 51, 52, 53, 54, 55, 58, 59, 60, 61, 62] := acc_mem n hl h
  have hn : n < 256 := by omega
  simp only [List.mem_cons, List.not_mem_nil, or_false] at hc
  have hN := namer_any n hn
  have hf := formr_any n (nm n) hN
  rcases hc with rfl | rfl | rfl | rfl | rfl | rfl | rfl | rfl | rfl | rfl | rfl | rfl | rfl | rfl | rfl | rfl | rfl | rfl | rfl
  · exact y_40 40 hN (hf (by decide) (by decide))
  · exact y_41 41 hN (hf (by decide) (by decide))
  · exact y_44 44 hN (hf (by decide) (by decide))
  · exact y_45 45 hN (hf (by decide) (by decide))
  · exact y_46 46 hN (hf (by decide) (by decide))
  · exact y_47 47 hN (hf (by decide) (by decide))
  · exact y_48 48 hN (hf (by decide) (by decide))
  · exact y_49 49 hN (hf (by decide) (by decide))
  · exact y_50 50 hN (hf (by decide) (by decide))
  · exact y_51 51 hN (hf (by decide) (by decide))
  · exact y_52 52 hN (hf (by decide) (by decide))
  · exact y_53 53 hN (hf (by decide) (by decide))
  · exact y_54 54 hN (hf (by decide) (by decide))
  · exact y_55 55 hN (hf (by decide) (by decide))
  · exact y_58 58 hN (hf (by decide) (by decide))
  · exact y_59 59 hN (hf (by decide) (by decide))
  · exact y_60 60 hN (hf (by decide) (by decide))
  · exact y_61 61 hN (hf (by decide) (by decide))
  · exact y_62 62 hN (hf (by decide) (by decide))
end Go.Proofs.YtcljcnaglkbjcaaGreatDoor
