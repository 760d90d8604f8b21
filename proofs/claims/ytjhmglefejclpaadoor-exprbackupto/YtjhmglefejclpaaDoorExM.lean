/- Instructions as trees, and what the document says of them: how many, which may be, their bytes, and what bytes tell. Plain mathematics. -/
import Derived.Test.YtjhmglefejclpaaDoorOpE
import Derived.Test.YtjhmglefejclpaaDoorMath4
namespace Go.Proofs.YtjhmglefejclpaaDoor
open Go.RowKit
namespace Ex
set_option linter.unusedVariables false

structure Ins where
  op : Int
  n : Int
  al : Int
  of : Int
  re : Int
  body : List Ins
  els : List Ins
  ls : List Int

theorem ind {P : List Ins → Prop} (h0 : P []) (h1 : ∀ op n al of re b e ls r, P b → P e → P r → P (⟨op, n, al, of, re, b, e, ls⟩ :: r)) : ∀ l, P l
  | [] => h0
  | ⟨op, n, al, of, re, b, e, ls⟩ :: r => h1 op n al of re b e ls r (ind h0 h1 b) (ind h0 h1 e) (ind h0 h1 r)
theorem ind2 {P : List Ins → Prop} (h : ∀ l, (∀ i ∈ l, P i.body ∧ P i.els) → P l) (l : List Ins) : P l := by
  have : P l ∧ ∀ i ∈ l, P i.body ∧ P i.els := by
    refine ind (P := fun l => P l ∧ ∀ i ∈ l, P i.body ∧ P i.els) ⟨h [] (by simp), by simp⟩ ?_ l
    intro op n al of re b e ls r hb he hr
    have : ∀ i ∈ (⟨op, n, al, of, re, b, e, ls⟩ : Ins) :: r, P i.body ∧ P i.els := by
      intro i hi
      rcases List.mem_cons.1 hi with rfl | hi
      · exact ⟨hb.1, he.1⟩
      · exact hr.2 i hi
    exact ⟨h _ this, this⟩
  exact this.1

/-- how many, those within others too -/
def cnt : List Ins → Nat
  | [] => 0
  | ⟨_, _, _, _, _, b, e, _⟩ :: r => 1 + cnt b + cnt e + cnt r
theorem cnt_nil : cnt [] = 0 := by rw [cnt]
theorem cnt_cons (i : Ins) (r : List Ins) : cnt (i :: r) = 1 + cnt i.body + cnt i.els + cnt r := by obtain ⟨op, n, al, of, re, b, e, ls⟩ := i; rw [cnt]
theorem cnt_app (l r : List Ins) : cnt (l ++ r) = cnt l + cnt r := by
  induction l with
  | nil => simp [cnt_nil]
  | cons i l ih => rw [List.cons_append, cnt_cons, cnt_cons, ih]; omega
theorem cnt_len (l : List Ins) : l.length ≤ cnt l := by
  induction l with
  | nil => simp
  | cons i l ih => rw [cnt_cons, List.length_cons]; omega

/-- are they the same? -/
def same : List Ins → List Ins → Bool
  | [], [] => true
  | ⟨op, n, al, of, re, b, e, ls⟩ :: r, ⟨op', n', al', of', re', b', e', ls'⟩ :: r' =>
    (op == op' && n == n' && al == al' && of == of' && re == re' && ls == ls' && same b b' && same e e') && same r r'
  | _, _ => false
theorem same_nil : same [] [] = true := by rw [same]
/-- one instruction beside another -/
def sameI (x y : Ins) : Bool := x.op == y.op && x.n == y.n && x.al == y.al && x.of == y.of && x.re == y.re && x.ls == y.ls && same x.body y.body && same x.els y.els
theorem same_cons (x y : Ins) (r s : List Ins) : same (x :: r) (y :: s) = (sameI x y && same r s) := by
  obtain ⟨op, n, al, of, re, b, e, ls⟩ := x
  obtain ⟨op2, n2, al2, of2, re2, b2, e2, ls2⟩ := y
  rw [same]; rfl
theorem same_iff (a : List Ins) : ∀ b, same a b = true ↔ a = b := by
  refine ind (P := fun a => ∀ b, same a b = true ↔ a = b) ?_ ?_ a
  · intro b
    cases b with
    | nil => simp [same_nil]
    | cons y s => simp [same]
  · intro op n al of re b e ls r hb he hr y
    cases y with
    | nil => simp [same]
    | cons y s =>
      obtain ⟨op', n', al', of', re', b', e', ls'⟩ := y
      rw [same_cons]
      simp only [sameI, Bool.and_eq_true, beq_iff_eq, hb b', he e', hr s, List.cons.injEq, Ins.mk.injEq]
      constructor
      · rintro ⟨⟨⟨⟨⟨⟨⟨⟨h1, h2⟩, h3⟩, h4⟩, h5⟩, h6⟩, h7⟩, h8⟩, h9⟩; exact ⟨⟨h1, h2, h3, h4, h5, h7, h8, h6⟩, h9⟩
      · rintro ⟨⟨h1, h2, h3, h4, h5, h7, h8, h6⟩, h9⟩; exact ⟨⟨⟨⟨⟨⟨⟨⟨h1, h2⟩, h3⟩, h4⟩, h5⟩, h6⟩, h7⟩, h8⟩, h9⟩
theorem same_refl (a : List Ins) : same a a = true := (same_iff a a).2 rfl
theorem same_ne {a b : List Ins} (h : a ≠ b) : same a b = false := by
  cases hh : same a b with
  | true => exact absurd ((same_iff a b).1 hh) h
  | false => rfl
theorem sameI_iff (x y : Ins) : sameI x y = true ↔ x = y := by
  obtain ⟨op, n, al, of, re, b, e, ls⟩ := x
  obtain ⟨op', n', al', of', re', b', e', ls'⟩ := y
  simp only [sameI, Bool.and_eq_true, beq_iff_eq, same_iff, Ins.mk.injEq]
  constructor
  · rintro ⟨⟨⟨⟨⟨⟨⟨h1, h2⟩, h3⟩, h4⟩, h5⟩, h6⟩, h7⟩, h8⟩; exact ⟨h1, h2, h3, h4, h5, h7, h8, h6⟩
  · rintro ⟨h1, h2, h3, h4, h5, h7, h8, h6⟩; exact ⟨⟨⟨⟨⟨⟨⟨h1, h2⟩, h3⟩, h4⟩, h5⟩, h6⟩, h7⟩, h8⟩
/-- the same, item by item, as far as k -/
theorem same_upto {a b : List Ins} (hl : a.length = b.length) (h : ∀ j (h1 : j < a.length) (h2 : j < b.length), sameI a[j] b[j] = true) : same a b = true := by
  rw [same_iff]
  exact List.ext_getElem hl fun j h1 h2 => (sameI_iff _ _).1 (h j h1 h2)
theorem same_not {a b : List Ins} (j : Nat) (h1 : j < a.length) (h2 : j < b.length) (h : sameI a[j] b[j] = false) : same a b = false := by
  apply same_ne
  rintro rfl
  rw [(sameI_iff _ _).2 rfl] at h
  exact absurd h (by decide)
theorem same_len {a b : List Ins} (h : a.length ≠ b.length) : same a b = false := same_ne fun e => h (by rw [e])

/-- an instruction's form, if there is such a one -/
def frm (op : Int) : Option Int := (fam op).map (·.o)
def fr (op : Int) : Int := (frm op).getD 0

/-- what it has by its form is as it may be -/
def bnd (f n re : Int) (ll : Nat) : Bool :=
  if f = 1 then decide (-2147483648 ≤ n ∧ n ≤ 2147483647)
  else if f = 3 ∨ f = 9 then decide (0 ≤ n ∧ n ≤ 4294967295)
  else if f = 6 ∨ f = 7 then decide (re = 0 ∨ re = 127 ∨ re = 126)
  else if f = 8 then decide (1 ≤ ll ∧ ll ≤ 257) else true
/-- it has no more -/
def alo (f n al of re : Int) (lb le ll : Nat) : Bool :=
  decide ((f = 1 ∨ f = 2 ∨ f = 3 ∨ f = 9 ∨ n = 0) ∧ (f = 4 ∨ (al = 0 ∧ of = 0)) ∧ (f = 6 ∨ f = 7 ∨ (re = 0 ∧ lb = 0)) ∧ (f = 7 ∨ le = 0) ∧ (f = 8 ∨ ll = 0))
/-- is it one that has others in it? -/
def blk (f : Int) : Bool := decide (f = 6 ∨ f = 7)
/-- one instruction by itself -/
def one (i : Ins) : Bool := (frm i.op).isSome && bnd (fr i.op) i.n i.re i.ls.length && alo (fr i.op) i.n i.al i.of i.re i.body.length i.els.length i.ls.length
/-- may they be, so deep in others? -/
def may : Nat → List Ins → Bool
  | _, [] => true
  | d, ⟨op, n, al, of, re, b, e, ls⟩ :: r =>
    (one ⟨op, n, al, of, re, b, e, ls⟩ && (!blk (fr op) || (decide (d < 64) && may (d + 1) b && may (d + 1) e))) && may d r
theorem may_nil (d : Nat) : may d [] = true := by rw [may]
/-- one instruction, and what is in it -/
def mayI (d : Nat) (i : Ins) : Bool := one i && (!blk (fr i.op) || (decide (d < 64) && may (d + 1) i.body && may (d + 1) i.els))
theorem may_cons (d : Nat) (i : Ins) (r : List Ins) : may d (i :: r) = (mayI d i && may d r) := by obtain ⟨op, n, al, of, re, b, e, ls⟩ := i; rw [may]; rfl
theorem may_get {d : Nat} : ∀ {l : List Ins}, may d l = true → ∀ i ∈ l, mayI d i = true := by
  intro l
  induction l with
  | nil => intro _ i hi; simp at hi
  | cons x r ih =>
    intro h i hi
    rw [may_cons, Bool.and_eq_true] at h
    rcases List.mem_cons.1 hi with rfl | hi
    · exact h.1
    · exact ih h.2 i hi
theorem may_of {d : Nat} : ∀ {l : List Ins}, (∀ i ∈ l, mayI d i = true) → may d l = true := by
  intro l
  induction l with
  | nil => intro _; exact may_nil d
  | cons x r ih =>
    intro h
    rw [may_cons, h x (by simp), ih fun i hi => h i (by simp [hi])]
    rfl
theorem may_not {d : Nat} {l : List Ins} {i : Ins} (hi : i ∈ l) (h : mayI d i = false) : may d l = false := by
  cases hh : may d l with
  | false => rfl
  | true => rw [may_get hh i hi] at h; exact absurd h (by decide)

/-- what stands behind an instruction's number; eb, ee: the bytes of what is in it -/
def encF (f n al of re : Int) (eb ee : List Int) (el : Nat) (ls : List Int) : List Int :=
  if f = 1 ∨ f = 2 then Leb.bS 10 n
  else if f = 3 then Leb.bU 10 n
  else if f = 4 then Leb.bU 10 al ++ Leb.bU 10 of
  else if f = 5 then [0]
  else if f = 6 ∨ f = 7 then [if re = 0 then 64 else re] ++ eb ++ (if 0 < el then [5] ++ ee else []) ++ [11]
  else if f = 8 then Leb.bU 10 ((ls.length : Int) - 1) ++ ls.flatMap (Leb.bU 10)
  else if f = 9 then Leb.bU 10 n ++ [0]
  else []
/-- the bytes, without the end -/
def enc : List Ins → List Int
  | [] => []
  | ⟨op, n, al, of, re, b, e, ls⟩ :: r => [op] ++ encF (fr op) n al of re (enc b) (enc e) e.length ls ++ enc r
theorem enc_nil : enc [] = [] := by rw [enc]
def encI (i : Ins) : List Int := encF (fr i.op) i.n i.al i.of i.re (enc i.body) (enc i.els) i.els.length i.ls
theorem enc_cons (i : Ins) (r : List Ins) : enc (i :: r) = [i.op] ++ encI i ++ enc r := by obtain ⟨op, n, al, of, re, b, e, ls⟩ := i; rw [enc]; rfl
theorem enc_app (l r : List Ins) : enc (l ++ r) = enc l ++ enc r := by
  induction l with
  | nil => simp [enc_nil]
  | cons i l ih => rw [List.cons_append, enc_cons, enc_cons, ih]; simp

/-- of the widths that they have -/
def fit (op n al of re : Int) (ls : List Int) : Prop :=
  (0 ≤ op ∧ op ≤ 255) ∧ (-9223372036854775808 ≤ n ∧ n < 9223372036854775808) ∧ (0 ≤ al ∧ al < 4294967296) ∧ (0 ≤ of ∧ of < 4294967296) ∧ (0 ≤ re ∧ re ≤ 255) ∧ ∀ z ∈ ls, 0 ≤ z ∧ z < 4294967296
def Wf : List Ins → Prop
  | [] => True
  | ⟨op, n, al, of, re, b, e, ls⟩ :: r => (fit op n al of re ls ∧ Wf b ∧ Wf e) ∧ Wf r
theorem Wf_nil : Wf [] := by rw [Wf]; trivial
def WfI (i : Ins) : Prop := fit i.op i.n i.al i.of i.re i.ls ∧ Wf i.body ∧ Wf i.els
theorem Wf_cons (i : Ins) (r : List Ins) : Wf (i :: r) ↔ WfI i ∧ Wf r := by obtain ⟨op, n, al, of, re, b, e, ls⟩ := i; rw [Wf]; rfl
theorem Wf_get {l : List Ins} (h : Wf l) : ∀ i ∈ l, WfI i := by
  induction l with
  | nil => intro i hi; simp at hi
  | cons x r ih =>
    intro i hi
    rw [Wf_cons] at h
    rcases List.mem_cons.1 hi with rfl | hi
    · exact h.1
    · exact ih h.2 i hi
theorem Wf_of {l : List Ins} (h : ∀ i ∈ l, WfI i) : Wf l := by
  induction l with
  | nil => exact Wf_nil
  | cons x r ih => exact (Wf_cons x r).2 ⟨h x (by simp), ih fun i hi => h i (by simp [hi])⟩
/-- no list longer than some -/
def Sz (M : Nat) : List Ins → Prop
  | [] => True
  | ⟨op, n, al, of, re, b, e, ls⟩ :: r => (b.length ≤ M ∧ e.length ≤ M ∧ ls.length ≤ M ∧ Sz M b ∧ Sz M e) ∧ Sz M r
theorem Sz_nil (M : Nat) : Sz M [] := by rw [Sz]; trivial
def SzI (M : Nat) (i : Ins) : Prop := i.body.length ≤ M ∧ i.els.length ≤ M ∧ i.ls.length ≤ M ∧ Sz M i.body ∧ Sz M i.els
theorem Sz_cons (M : Nat) (i : Ins) (r : List Ins) : Sz M (i :: r) ↔ SzI M i ∧ Sz M r := by obtain ⟨op, n, al, of, re, b, e, ls⟩ := i; rw [Sz]; rfl
theorem Sz_get {M : Nat} {l : List Ins} (h : Sz M l) : ∀ i ∈ l, SzI M i := by
  induction l with
  | nil => intro i hi; simp at hi
  | cons x r ih =>
    intro i hi
    rw [Sz_cons] at h
    rcases List.mem_cons.1 hi with rfl | hi
    · exact h.1
    · exact ih h.2 i hi
theorem Sz_of {M : Nat} {l : List Ins} (h : ∀ i ∈ l, SzI M i) : Sz M l := by
  induction l with
  | nil => exact Sz_nil M
  | cons x r ih => exact (Sz_cons M x r).2 ⟨h x (by simp), ih fun i hi => h i (by simp [hi])⟩
theorem Sz_mono {M N : Nat} (hm : M ≤ N) (l : List Ins) : Sz M l → Sz N l := by
  refine ind2 (P := fun l => Sz M l → Sz N l) (fun l ih h => Sz_of fun i hi => ?_) l
  have := Sz_get h i hi
  exact ⟨by have := this.1; omega, by have := this.2.1; omega, by have := this.2.2.1; omega, (ih i hi).1 this.2.2.2.1, (ih i hi).2 this.2.2.2.2⟩
end Ex
end Go.Proofs.YtjhmglefejclpaaDoor
