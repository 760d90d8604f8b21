/- Instructions as trees, and what the document says of them: how many, which may be, their bytes, and what bytes tell. Plain mathematics. -/
import Derived.Test.YtcpknafaocdjdaaGreatDoorOpE
namespace Go.Proofs.YtcpknafaocdjdaaGreatDoor
open Go.RowKit
namespace Ex
set_option linter.unusedVariables false

structure Ins where
  op : Int
  n : Int
  al : Int
  of : Int
  re : Int
  body : List Ins
  els : List Ins
  ls : List Int

theorem ind {P : List Ins → Prop} (h0 : P []) (h1 : ∀ op n al of re b e ls r, P b → P e → P r → P (⟨op, n, al, of, re, b, e, ls⟩ :: r)) : ∀ l, P l
  | [] => h0
  | ⟨op, n, al, of, re, b, e, ls⟩ :: r => h1 op n al of re b e ls r (ind h0 h1 b) (ind h0 h1 e) (ind h0 h1 r)
theorem ind2 {P : List Ins → Prop} (h : ∀ l, (∀ i ∈ l, P i.body ∧ P i.els) → P l) (l : List Ins) : P l := by
  have : P l ∧ ∀ i ∈ l, P i.body ∧ P i.els := by
    refine ind (P := fun l => P l ∧ ∀ i ∈ l, P i.body ∧ P i.els) ⟨h [] (by simp), by simp⟩ ?_ l
    intro op n al of re b e ls r hb he hr
    have : ∀ i ∈ (⟨op, n, al, of, re, b, e, ls⟩ : Ins) :: r, P i.body ∧ P i.els := by
      intro i hi
      rcases List.mem_cons.1 hi with rfl | hi
      · exact ⟨hb.1, he.1⟩
      · exact hr.2 i hi
    exact ⟨h _ this, this⟩
  exact this.1

/-- how many, those within others too -/
def cnt : List Ins → Nat
  | [] => 0
  | ⟨_, _, _, _, _, b, e, _⟩ :: r => 1 + cnt b + cnt e + cnt r
theorem cnt_nil : cnt [] = 0 := by rw [cnt]
theorem cnt_cons (i : Ins) (r : List Ins) : cnt (i :: r) = 1 + cnt i.body + cnt i.els + cnt r := by obtain ⟨op, n, al, of, re, b, e, ls⟩ := i; rw [cnt]
theorem cnt_app (l r : List Ins) : cnt (l ++ r) = cnt l + cnt r := by
  induction l with
  | nil => simp [cnt_nil]
  | cons i l ih => rw [List.cons_append, cnt_cons, cnt_cons, ih]; omega
theorem cnt_len (l : List Ins) : l.length ≤ cnt l := by
  induction l with
  | nil => simp
  | cons i l ih => rw [cnt_cons, List.length_cons]; omega

/-- are they the same? -/
def same : List Ins → List Ins → Bool
  | [], [] => true
  | ⟨op, n, al, of, re, b, e, ls⟩ :: r, ⟨op', n', al', of', re', b', e', ls'⟩ :: r' =>
    (op == op' && n == n' && al == al' && of == of' && re == re' && ls == ls' && same b b' && same e e') && same r r'
  | _, _ => false
theorem same_nil : same [] [] = true := by rw [same]
/-- one instruction beside another -/
def sameI (x y : Ins) : Bool := x.op == y.op && x.n == y.n && x.al == y.al && x.of == y.of && x.re == y.re && x.ls == y.ls && same x.body y.body && same x.els y.els
theorem same_cons (x y : Ins) (r s : List Ins) : same (x :: r) (y :: s) = (sameI x y && same r s) := by
  obtain ⟨op, n, al, of, re, b, e, ls⟩ := x
  obtain ⟨op2, n2, al2, of2, re2, b2, e2, ls2⟩ := y
  rw [same]; rfl
theorem same_iff (a : List Ins) : ∀ b, same a b = true ↔ a = b := by
  refine ind (P := fun a => ∀ b, same a b = true ↔ a = b) ?_ ?_ a
  · intro b
    cases b with
    | nil => simp [same_nil]
    | cons y s => simp [same]
  · intro op n al of re b e ls r hb he hr y
    cases y with
    | nil => simp [same]
    | cons y s =>
      obtain ⟨op', n', al', of', re', b', e', ls'⟩ := y
      rw [same_cons]
      simp only [sameI, Bool.and_eq_true, beq_iff_eq, hb b', he e', hr s, List.cons.injEq, Ins.mk.injEq]
      constructor
      · rintro ⟨⟨⟨⟨⟨⟨⟨⟨h1, h2⟩, h3⟩, h4⟩, h5⟩, h6⟩, h7⟩, h8⟩, h9⟩; exact ⟨⟨h1, h2, h3, h4, h5, h7, h8, h6⟩, h9⟩
      · rintro ⟨⟨h1, h2, h3, h4, h5, h7, h8, h6⟩, h9⟩; exact ⟨⟨⟨⟨⟨⟨⟨⟨h1, h2⟩, h3⟩, h4⟩, h5⟩, h6⟩, h7⟩, h8⟩, h9⟩
theorem same_refl (a : List Ins) : same a a = true := (same_iff a a).2 rfl
theorem same_ne {a b : List Ins} (h : a ≠ b) : same a b = false := by
  cases hh : same a b with
  | true => exact absurd ((same_iff a b).1 hh) h
  | false => rfl
theorem sameI_iff (x y : Ins) : sameI x y = true ↔ x = y := by
  obtain ⟨op, n, al, of, re, b, e, ls⟩ := x
  obtain ⟨op', n', al', of', re', b', e', ls'⟩ := y
  simp only [sameI, Bool.and_eq_true, beq_iff_eq, same_iff, Ins.mk.injEq]
  constructor
  · rintro ⟨⟨⟨⟨⟨⟨⟨h1, h2⟩, h3⟩, h4⟩, h5⟩, h6⟩, h7⟩, h8⟩; exact ⟨h1, h2, h3, h4, h5, h7, h8, h6⟩
  · rintro ⟨h1, h2, h3, h4, h5, h7, h8, h6⟩; exact ⟨⟨⟨⟨⟨⟨⟨h1, h2⟩, h3⟩, h4⟩, h5⟩, h6⟩, h7⟩, h8⟩
/-- the same, item by item, as far as k -/
theorem same_upto {a b : List Ins} (hl : a.length = b.length) (h : ∀ j (h1 : j < a.length) (h2 : j < b.length), sameI a[j] b[j] = true) : same a b = true := by
  rw [same_iff]
  exact List.ext_getElem hl fun j h1 h2 => (sameI_iff _ _).1 (h j h1 h2)
theorem same_not {a b : List Ins} (j : Nat) (h1 : j < a.length) (h2 : j < b.length) (h : sameI a[j] b[j] = false) : same a b = false := by
  apply same_ne
  rintro rfl
  rw [(sameI_iff _ _).2 rfl] at h
  exact absurd h (by decide)
theorem same_len {a b : List Ins} (h : a.length ≠ b.length) : same a b = false := same_ne fun e => h (by rw [e])

/-- an instruction's form, if there is such a one -/
def fit (op n al of re : Int) (ls : List Int) : Prop :=
  (0 ≤ op ∧ op ≤ 255) ∧ (-9223372036854775808 ≤ n ∧ n < 9223372036854775808) ∧ (0 ≤ al ∧ al < 4294967296) ∧ (0 ≤ of ∧ of < 4294967296) ∧ (0 ≤ re ∧ re ≤ 255) ∧ ∀ z ∈ ls, 0 ≤ z ∧ z < 4294967296
def Wf : List Ins → Prop
  | [] => True
  | ⟨op, n, al, of, re, b, e, ls⟩ :: r => (fit op n al of re ls ∧ Wf b ∧ Wf e) ∧ Wf r
theorem Wf_nil : Wf [] := by rw [Wf]; trivial
def WfI (i : Ins) : Prop := fit i.op i.n i.al i.of i.re i.ls ∧ Wf i.body ∧ Wf i.els
theorem Wf_cons (i : Ins) (r : List Ins) : Wf (i :: r) ↔ WfI i ∧ Wf r := by obtain ⟨op, n, al, of, re, b, e, ls⟩ := i; rw [Wf]; rfl
theorem Wf_get {l : List Ins} (h : Wf l) : ∀ i ∈ l, WfI i := by
  induction l with
  | nil => intro i hi; simp at hi
  | cons x r ih =>
    intro i hi
    rw [Wf_cons] at h
    rcases List.mem_cons.1 hi with rfl | hi
    · exact h.1
    · exact ih h.2 i hi
theorem Wf_of {l : List Ins} (h : ∀ i ∈ l, WfI i) : Wf l := by
  induction l with
  | nil => exact Wf_nil
  | cons x r ih => exact (Wf_cons x r).2 ⟨h x (by simp), ih fun i hi => h i (by simp [hi])⟩
/-- no list longer than some -/
def Sz (M : Nat) : List Ins → Prop
  | [] => True
  | ⟨op, n, al, of, re, b, e, ls⟩ :: r => (b.length ≤ M ∧ e.length ≤ M ∧ ls.length ≤ M ∧ Sz M b ∧ Sz M e) ∧ Sz M r
theorem Sz_nil (M : Nat) : Sz M [] := by rw [Sz]; trivial
def SzI (M : Nat) (i : Ins) : Prop := i.body.length ≤ M ∧ i.els.length ≤ M ∧ i.ls.length ≤ M ∧ Sz M i.body ∧ Sz M i.els
theorem Sz_cons (M : Nat) (i : Ins) (r : List Ins) : Sz M (i :: r) ↔ SzI M i ∧ Sz M r := by obtain ⟨op, n, al, of, re, b, e, ls⟩ := i; rw [Sz]; rfl
theorem Sz_get {M : Nat} {l : List Ins} (h : Sz M l) : ∀ i ∈ l, SzI M i := by
  induction l with
  | nil => intro i hi; simp at hi
  | cons x r ih =>
    intro i hi
    rw [Sz_cons] at h
    rcases List.mem_cons.1 hi with rfl | hi
    · exact h.1
    · exact ih h.2 i hi
theorem Sz_of {M : Nat} {l : List Ins} (h : ∀ i ∈ l, SzI M i) : Sz M l := by
  induction l with
  | nil => exact Sz_nil M
  | cons x r ih => exact (Sz_cons M x r).2 ⟨h x (by simp), ih fun i hi => h i (by simp [hi])⟩
theorem Sz_mono {M N : Nat} (hm : M ≤ N) (l : List Ins) : Sz M l → Sz N l := by
  refine ind2 (P := fun l => Sz M l → Sz N l) (fun l ih h => Sz_of fun i hi => ?_) l
  have := Sz_get h i hi
  exact ⟨by have := this.1; omega, by have := this.2.1; omega, by have := this.2.2.1; omega, (ih i hi).1 this.2.2.2.1, (ih i hi).2 this.2.2.2.2⟩
end Ex
end Go.Proofs.YtcpknafaocdjdaaGreatDoor
