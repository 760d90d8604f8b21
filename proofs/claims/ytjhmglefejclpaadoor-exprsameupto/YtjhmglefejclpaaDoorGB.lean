/- GB: what follows, part by part: each part tells what it holds. -/
import Derived.Test.YtjhmglefejclpaaDoorGA
import Derived.Deep.AppendLies
import Derived.Deep.QuietTactic
import Derived.BigQuiet
import Derived.Deep.RegionHeld3
import Derived.Deep.DrawnRows

/- Instructions as trees, and what the document says of them: how many, which may be, their bytes, and what bytes tell. Plain mathematics. -/
namespace Go.Proofs.YtjhmglefejclpaaDoor
open Go.RowKit
namespace Ex
set_option linter.unusedVariables false

structure Ins where
  op : Int
  n : Int
  al : Int
  of : Int
  re : Int
  body : List Ins
  els : List Ins
  ls : List Int

theorem ind {P : List Ins → Prop} (h0 : P []) (h1 : ∀ op n al of re b e ls r, P b → P e → P r → P (⟨op, n, al, of, re, b, e, ls⟩ :: r)) : ∀ l, P l
  | [] => h0
  | ⟨op, n, al, of, re, b, e, ls⟩ :: r => h1 op n al of re b e ls r (ind h0 h1 b) (ind h0 h1 e) (ind h0 h1 r)
theorem ind2 {P : List Ins → Prop} (h : ∀ l, (∀ i ∈ l, P i.body ∧ P i.els) → P l) (l : List Ins) : P l := by
  have : P l ∧ ∀ i ∈ l, P i.body ∧ P i.els := by
    refine ind (P := fun l => P l ∧ ∀ i ∈ l, P i.body ∧ P i.els) ⟨h [] (by simp), by simp⟩ ?_ l
    intro op n al of re b e ls r hb he hr
    have : ∀ i ∈ (⟨op, n, al, of, re, b, e, ls⟩ : Ins) :: r, P i.body ∧ P i.els := by
      intro i hi
      rcases List.mem_cons.1 hi with rfl | hi
      · exact ⟨hb.1, he.1⟩
      · exact hr.2 i hi
    exact ⟨h _ this, this⟩
  exact this.1

/-- how many, those within others too -/
def cnt : List Ins → Nat
  | [] => 0
  | ⟨_, _, _, _, _, b, e, _⟩ :: r => 1 + cnt b + cnt e + cnt r
theorem cnt_nil : cnt [] = 0 := by rw [cnt]
theorem cnt_cons (i : Ins) (r : List Ins) : cnt (i :: r) = 1 + cnt i.body + cnt i.els + cnt r := by obtain ⟨op, n, al, of, re, b, e, ls⟩ := i; rw [cnt]
theorem cnt_app (l r : List Ins) : cnt (l ++ r) = cnt l + cnt r := by
  induction l with
  | nil => simp [cnt_nil]
  | cons i l ih => rw [List.cons_append, cnt_cons, cnt_cons, ih]; omega
theorem cnt_len (l : List Ins) : l.length ≤ cnt l := by
  induction l with
  | nil => simp
  | cons i l ih => rw [cnt_cons, List.length_cons]; omega

/-- are they the same? -/
def same : List Ins → List Ins → Bool
  | [], [] => true
  | ⟨op, n, al, of, re, b, e, ls⟩ :: r, ⟨op', n', al', of', re', b', e', ls'⟩ :: r' =>
    (op == op' && n == n' && al == al' && of == of' && re == re' && ls == ls' && same b b' && same e e') && same r r'
  | _, _ => false
theorem same_nil : same [] [] = true := by rw [same]
/-- one instruction beside another -/
def sameI (x y : Ins) : Bool := x.op == y.op && x.n == y.n && x.al == y.al && x.of == y.of && x.re == y.re && x.ls == y.ls && same x.body y.body && same x.els y.els
theorem same_cons (x y : Ins) (r s : List Ins) : same (x :: r) (y :: s) = (sameI x y && same r s) := by
  obtain ⟨op, n, al, of, re, b, e, ls⟩ := x
  obtain ⟨op2, n2, al2, of2, re2, b2, e2, ls2⟩ := y
  rw [same]; rfl
theorem same_iff (a : List Ins) : ∀ b, same a b = true ↔ a = b := by
  refine ind (P := fun a => ∀ b, same a b = true ↔ a = b) ?_ ?_ a
  · intro b
    cases b with
    | nil => simp [same_nil]
    | cons y s => simp [same]
  · intro op n al of re b e ls r hb he hr y
    cases y with
    | nil => simp [same]
    | cons y s =>
      obtain ⟨op', n', al', of', re', b', e', ls'⟩ := y
      rw [same_cons]
      simp only [sameI, Bool.and_eq_true, beq_iff_eq, hb b', he e', hr s, List.cons.injEq, Ins.mk.injEq]
      constructor
      · rintro ⟨⟨⟨⟨⟨⟨⟨⟨h1, h2⟩, h3⟩, h4⟩, h5⟩, h6⟩, h7⟩, h8⟩, h9⟩; exact ⟨⟨h1, h2, h3, h4, h5, h7, h8, h6⟩, h9⟩
      · rintro ⟨⟨h1, h2, h3, h4, h5, h7, h8, h6⟩, h9⟩; exact ⟨⟨⟨⟨⟨⟨⟨⟨h1, h2⟩, h3⟩, h4⟩, h5⟩, h6⟩, h7⟩, h8⟩, h9⟩
theorem same_refl (a : List Ins) : same a a = true := (same_iff a a).2 rfl
theorem same_ne {a b : List Ins} (h : a ≠ b) : same a b = false := by
  cases hh : same a b with
  | true => exact absurd ((same_iff a b).1 hh) h
  | false => rfl
theorem sameI_iff (x y : Ins) : sameI x y = true ↔ x = y := by
  obtain ⟨op, n, al, of, re, b, e, ls⟩ := x
  obtain ⟨op', n', al', of', re', b', e', ls'⟩ := y
  simp only [sameI, Bool.and_eq_true, beq_iff_eq, same_iff, Ins.mk.injEq]
  constructor
  · rintro ⟨⟨⟨⟨⟨⟨⟨h1, h2⟩, h3⟩, h4⟩, h5⟩, h6⟩, h7⟩, h8⟩; exact ⟨h1, h2, h3, h4, h5, h7, h8, h6⟩
  · rintro ⟨h1, h2, h3, h4, h5, h7, h8, h6⟩; exact ⟨⟨⟨⟨⟨⟨⟨h1, h2⟩, h3⟩, h4⟩, h5⟩, h6⟩, h7⟩, h8⟩
/-- the same, item by item, as far as k -/
theorem same_upto {a b : List Ins} (hl : a.length = b.length) (h : ∀ j (h1 : j < a.length) (h2 : j < b.length), sameI a[j] b[j] = true) : same a b = true := by
  rw [same_iff]
  exact List.ext_getElem hl fun j h1 h2 => (sameI_iff _ _).1 (h j h1 h2)
theorem same_not {a b : List Ins} (j : Nat) (h1 : j < a.length) (h2 : j < b.length) (h : sameI a[j] b[j] = false) : same a b = false := by
  apply same_ne
  rintro rfl
  rw [(sameI_iff _ _).2 rfl] at h
  exact absurd h (by decide)
theorem same_len {a b : List Ins} (h : a.length ≠ b.length) : same a b = false := same_ne fun e => h (by rw [e])

/-- an instruction's form, if there is such a one -/
def frm (op : Int) : Option Int := (fam op).map (·.o)
def fr (op : Int) : Int := (frm op).getD 0

/-- what it has by its form is as it may be -/
def bnd (f n re : Int) (ll : Nat) : Bool :=
  if f = 1 then decide (-2147483648 ≤ n ∧ n ≤ 2147483647)
  else if f = 3 ∨ f = 9 then decide (0 ≤ n ∧ n ≤ 4294967295)
  else if f = 6 ∨ f = 7 then decide (re = 0 ∨ re = 127 ∨ re = 126)
  else if f = 8 then decide (1 ≤ ll ∧ ll ≤ 257) else true
/-- it has no more -/
def alo (f n al of re : Int) (lb le ll : Nat) : Bool :=
  decide ((f = 1 ∨ f = 2 ∨ f = 3 ∨ f = 9 ∨ n = 0) ∧ (f = 4 ∨ (al = 0 ∧ of = 0)) ∧ (f = 6 ∨ f = 7 ∨ (re = 0 ∧ lb = 0)) ∧ (f = 7 ∨ le = 0) ∧ (f = 8 ∨ ll = 0))
/-- is it one that has others in it? -/
def blk (f : Int) : Bool := decide (f = 6 ∨ f = 7)
/-- one instruction by itself -/
def one (i : Ins) : Bool := (frm i.op).isSome && bnd (fr i.op) i.n i.re i.ls.length && alo (fr i.op) i.n i.al i.of i.re i.body.length i.els.length i.ls.length
/-- may they be, so deep in others? -/
def may : Nat → List Ins → Bool
  | _, [] => true
  | d, ⟨op, n, al, of, re, b, e, ls⟩ :: r =>
    (one ⟨op, n, al, of, re, b, e, ls⟩ && (!blk (fr op) || (decide (d < 64) && may (d + 1) b && may (d + 1) e))) && may d r
theorem may_nil (d : Nat) : may d [] = true := by rw [may]
/-- one instruction, and what is in it -/
def mayI (d : Nat) (i : Ins) : Bool := one i && (!blk (fr i.op) || (decide (d < 64) && may (d + 1) i.body && may (d + 1) i.els))
theorem may_cons (d : Nat) (i : Ins) (r : List Ins) : may d (i :: r) = (mayI d i && may d r) := by obtain ⟨op, n, al, of, re, b, e, ls⟩ := i; rw [may]; rfl
theorem may_get {d : Nat} : ∀ {l : List Ins}, may d l = true → ∀ i ∈ l, mayI d i = true := by
  intro l
  induction l with
  | nil => intro _ i hi; simp at hi
  | cons x r ih =>
    intro h i hi
    rw [may_cons, Bool.and_eq_true] at h
    rcases List.mem_cons.1 hi with rfl | hi
    · exact h.1
    · exact ih h.2 i hi
theorem may_of {d : Nat} : ∀ {l : List Ins}, (∀ i ∈ l, mayI d i = true) → may d l = true := by
  intro l
  induction l with
  | nil => intro _; exact may_nil d
  | cons x r ih =>
    intro h
    rw [may_cons, h x (by simp), ih fun i hi => h i (by simp [hi])]
    rfl
theorem may_not {d : Nat} {l : List Ins} {i : Ins} (hi : i ∈ l) (h : mayI d i = false) : may d l = false := by
  cases hh : may d l with
  | false => rfl
  | true => rw [may_get hh i hi] at h; exact absurd h (by decide)

/-- what stands behind an instruction's number; eb, ee: the bytes of what is in it -/
def encF (f n al of re : Int) (eb ee : List Int) (el : Nat) (ls : List Int) : List Int :=
  if f = 1 ∨ f = 2 then Leb.bS 10 n
  else if f = 3 then Leb.bU 10 n
  else if f = 4 then Leb.bU 10 al ++ Leb.bU 10 of
  else if f = 5 then [0]
  else if f = 6 ∨ f = 7 then [if re = 0 then 64 else re] ++ eb ++ (if 0 < el then [5] ++ ee else []) ++ [11]
  else if f = 8 then Leb.bU 10 ((ls.length : Int) - 1) ++ ls.flatMap (Leb.bU 10)
  else if f = 9 then Leb.bU 10 n ++ [0]
  else []
/-- the bytes, without the end -/
def enc : List Ins → List Int
  | [] => []
  | ⟨op, n, al, of, re, b, e, ls⟩ :: r => [op] ++ encF (fr op) n al of re (enc b) (enc e) e.length ls ++ enc r
theorem enc_nil : enc [] = [] := by rw [enc]
def encI (i : Ins) : List Int := encF (fr i.op) i.n i.al i.of i.re (enc i.body) (enc i.els) i.els.length i.ls
theorem enc_cons (i : Ins) (r : List Ins) : enc (i :: r) = [i.op] ++ encI i ++ enc r := by obtain ⟨op, n, al, of, re, b, e, ls⟩ := i; rw [enc]; rfl
theorem enc_app (l r : List Ins) : enc (l ++ r) = enc l ++ enc r := by
  induction l with
  | nil => simp [enc_nil]
  | cons i l ih => rw [List.cons_append, enc_cons, enc_cons, ih]; simp

/-- of the widths that they have -/
def fit (op n al of re : Int) (ls : List Int) : Prop :=
  (0 ≤ op ∧ op ≤ 255) ∧ (-9223372036854775808 ≤ n ∧ n < 9223372036854775808) ∧ (0 ≤ al ∧ al < 4294967296) ∧ (0 ≤ of ∧ of < 4294967296) ∧ (0 ≤ re ∧ re ≤ 255) ∧ ∀ z ∈ ls, 0 ≤ z ∧ z < 4294967296
def Wf : List Ins → Prop
  | [] => True
  | ⟨op, n, al, of, re, b, e, ls⟩ :: r => (fit op n al of re ls ∧ Wf b ∧ Wf e) ∧ Wf r
theorem Wf_nil : Wf [] := by rw [Wf]; trivial
def WfI (i : Ins) : Prop := fit i.op i.n i.al i.of i.re i.ls ∧ Wf i.body ∧ Wf i.els
theorem Wf_cons (i : Ins) (r : List Ins) : Wf (i :: r) ↔ WfI i ∧ Wf r := by obtain ⟨op, n, al, of, re, b, e, ls⟩ := i; rw [Wf]; rfl
theorem Wf_get {l : List Ins} (h : Wf l) : ∀ i ∈ l, WfI i := by
  induction l with
  | nil => intro i hi; simp at hi
  | cons x r ih =>
    intro i hi
    rw [Wf_cons] at h
    rcases List.mem_cons.1 hi with rfl | hi
    · exact h.1
    · exact ih h.2 i hi
theorem Wf_of {l : List Ins} (h : ∀ i ∈ l, WfI i) : Wf l := by
  induction l with
  | nil => exact Wf_nil
  | cons x r ih => exact (Wf_cons x r).2 ⟨h x (by simp), ih fun i hi => h i (by simp [hi])⟩
/-- no list longer than some -/
def Sz (M : Nat) : List Ins → Prop
  | [] => True
  | ⟨op, n, al, of, re, b, e, ls⟩ :: r => (b.length ≤ M ∧ e.length ≤ M ∧ ls.length ≤ M ∧ Sz M b ∧ Sz M e) ∧ Sz M r
theorem Sz_nil (M : Nat) : Sz M [] := by rw [Sz]; trivial
def SzI (M : Nat) (i : Ins) : Prop := i.body.length ≤ M ∧ i.els.length ≤ M ∧ i.ls.length ≤ M ∧ Sz M i.body ∧ Sz M i.els
theorem Sz_cons (M : Nat) (i : Ins) (r : List Ins) : Sz M (i :: r) ↔ SzI M i ∧ Sz M r := by obtain ⟨op, n, al, of, re, b, e, ls⟩ := i; rw [Sz]; rfl
theorem Sz_get {M : Nat} {l : List Ins} (h : Sz M l) : ∀ i ∈ l, SzI M i := by
  induction l with
  | nil => intro i hi; simp at hi
  | cons x r ih =>
    intro i hi
    rw [Sz_cons] at h
    rcases List.mem_cons.1 hi with rfl | hi
    · exact h.1
    · exact ih h.2 i hi
theorem Sz_of {M : Nat} {l : List Ins} (h : ∀ i ∈ l, SzI M i) : Sz M l := by
  induction l with
  | nil => exact Sz_nil M
  | cons x r ih => exact (Sz_cons M x r).2 ⟨h x (by simp), ih fun i hi => h i (by simp [hi])⟩
theorem Sz_mono {M N : Nat} (hm : M ≤ N) (l : List Ins) : Sz M l → Sz N l := by
  refine ind2 (P := fun l => Sz M l → Sz N l) (fun l ih h => Sz_of fun i hi => ?_) l
  have := Sz_get h i hi
  exact ⟨by have := this.1; omega, by have := this.2.1; omega, by have := this.2.2.1; omega, (ih i hi).1 this.2.2.2.1, (ih i hi).2 this.2.2.2.2⟩
end Ex
end Go.Proofs.YtjhmglefejclpaaDoor

/- Instructions in memory: where they lie, what stays of them, and how one more is appended. -/
namespace Go.Proofs.YtjhmglefejclpaaDoor
open Go.RowKit
namespace Ex
set_option linter.unusedVariables false

/-- a slice of so many, in a block that g lets -/
def Lies (g : Nat → Prop) (len : Nat) (P : Nat → Nat → Prop) (v : Value) : Prop :=
  ∃ a cap, v = .slice a len cap ∧ len ≤ cap ∧ (a = none → cap = 0) ∧ (0 < len → ∃ b o, a = some ⟨b, o, none⟩ ∧ g b ∧ P b o)
/-- an instruction's eight cells -/
def Cel (w : World) (b o : Nat) (op n al of re : Int) (vb ve vl : Value) : Prop :=
  w.cell? ⟨b, o, none⟩ = some (.int .u8 op) ∧ w.cell? ⟨b, o + 1, none⟩ = some (.int .i64 n) ∧ w.cell? ⟨b, o + 2, none⟩ = some (.int .u32 al) ∧ w.cell? ⟨b, o + 3, none⟩ = some (.int .u32 of) ∧
  w.cell? ⟨b, o + 4, none⟩ = some (.int .u8 re) ∧ w.cell? ⟨b, o + 5, none⟩ = some vb ∧ w.cell? ⟨b, o + 6, none⟩ = some ve ∧ w.cell? ⟨b, o + 7, none⟩ = some vl
def Lab (w : World) (ls : List Int) (b o : Nat) : Prop := ∀ j, j < ls.length → w.cell? ⟨b, o + j, none⟩ = some (.int .u32 (ls.getD j 0))
def Items (w : World) (g : Nat → Prop) : List Ins → Nat → Nat → Prop
  | [], _, _ => True
  | ⟨op, n, al, of, re, bo, el, ls⟩ :: r, b, o =>
    (∃ vb ve vl, Cel w b o op n al of re vb ve vl ∧ Lies g bo.length (fun b' o' => Items w g bo b' o') vb ∧ Lies g el.length (fun b' o' => Items w g el b' o') ve ∧ Lies g ls.length (Lab w ls) vl) ∧ Items w g r b (o + 8)
/-- a slice value that is such a list -/
def Code (w : World) (g : Nat → Prop) (l : List Ins) (v : Value) : Prop := Lies g l.length (Items w g l) v
def ItemAt (w : World) (g : Nat → Prop) (i : Ins) (b o : Nat) : Prop :=
  ∃ vb ve vl, Cel w b o i.op i.n i.al i.of i.re vb ve vl ∧ Code w g i.body vb ∧ Code w g i.els ve ∧ Lies g i.ls.length (Lab w i.ls) vl
theorem Items_nil (w : World) (g : Nat → Prop) (b o : Nat) : Items w g [] b o := by rw [Items]; trivial
theorem Items_cons (w : World) (g : Nat → Prop) (i : Ins) (r : List Ins) (b o : Nat) : Items w g (i :: r) b o ↔ ItemAt w g i b o ∧ Items w g r b (o + 8) := by
  obtain ⟨op, n, al, of, re, bo, el, ls⟩ := i
  rw [Items]; rfl
theorem Items_get {w : World} {g : Nat → Prop} {b : Nat} : ∀ {l : List Ins} {o : Nat}, Items w g l b o → ∀ j (hj : j < l.length), ItemAt w g l[j] b (o + j * 8) := by
  intro l
  induction l with
  | nil => intro o _ j hj; simp at hj
  | cons i r ih =>
    intro o h j hj
    rw [Items_cons] at h
    cases j with
    | zero => simpa using h.1
    | succ j => have := ih h.2 j (by simpa using hj); rw [show o + (j + 1) * 8 = o + 8 + j * 8 by omega]; simpa using this
theorem Items_of {w : World} {g : Nat → Prop} {b : Nat} : ∀ {l : List Ins} {o : Nat}, (∀ j (hj : j < l.length), ItemAt w g l[j] b (o + j * 8)) → Items w g l b o := by
  intro l
  induction l with
  | nil => intro o _; exact Items_nil w g b o
  | cons i r ih =>
    intro o h
    rw [Items_cons]
    refine ⟨by have h0 := h 0 (by simp); rw [Nat.zero_mul, Nat.add_zero] at h0; exact h0, ih fun j hj => ?_⟩
    have := h (j + 1) (by simpa using hj)
    rw [show o + (j + 1) * 8 = o + 8 + j * 8 by omega] at this
    simpa using this
theorem Items_lt {w : World} {g : Nat → Prop} {b o : Nat} {l : List Ins} (h : Items w g l b o) (hl : 0 < l.length) : b < w.heap.size := by
  obtain ⟨vb, ve, vl, hc, _⟩ := Items_get h 0 hl
  exact World.block_lt_of_cell? w _ hc.1
theorem Lab_lt {w : World} {b o : Nat} {ls : List Int} (h : Lab w ls b o) (hl : 0 < ls.length) : b < w.heap.size := World.block_lt_of_cell? w _ (h 0 hl)

/-- a block that can be of instructions, or of labels -/
def Kin (w : World) (k : Nat) : Prop := ∃ o x, w.cell? ⟨k, o, none⟩ = some (.int .u8 x) ∨ w.cell? ⟨k, o, none⟩ = some (.int .u32 x)
theorem Items_kin {w : World} {g : Nat → Prop} {b o : Nat} {l : List Ins} (h : Items w g l b o) (hl : 0 < l.length) : Kin w b := by
  obtain ⟨vb, ve, vl, hc, _⟩ := Items_get h 0 hl
  exact ⟨_, _, .inl hc.1⟩
theorem Lab_kin {w : World} {b o : Nat} {ls : List Int} (h : Lab w ls b o) (hl : 0 < ls.length) : Kin w b := ⟨_, _, .inr (h 0 hl)⟩
/-- from one world to another, from one block that is left alone to another -/
def Moves (w w' : World) (g g' : Nat → Prop) : Prop := ∀ k, k < w.heap.size → Kin w k → g k → g' k ∧ w'.heap[k]? = w.heap[k]?
theorem cel_move {w w' : World} {b : Nat} (h : w'.heap[b]? = w.heap[b]?) (o : Nat) : w'.cell? ⟨b, o, none⟩ = w.cell? ⟨b, o, none⟩ := World.cell?_of_block (a := ⟨b, o, none⟩) h
theorem Cel.move {w w' : World} {b o : Nat} {op n al of re : Int} {vb ve vl : Value} (h : w'.heap[b]? = w.heap[b]?) (hc : Cel w b o op n al of re vb ve vl) : Cel w' b o op n al of re vb ve vl := by
  unfold Cel at *
  simpa only [cel_move h] using hc
theorem Lab.move {w w' : World} {b o : Nat} {ls : List Int} (h : w'.heap[b]? = w.heap[b]?) (hc : Lab w ls b o) : Lab w' ls b o := fun j hj => (cel_move h _).trans (hc j hj)
theorem Lies.move {g g' : Nat → Prop} {len : Nat} {P Q : Nat → Nat → Prop} {v : Value} (h : Lies g len P v) (hpq : 0 < len → ∀ b o, g b → P b o → g' b ∧ Q b o) : Lies g' len Q v := by
  obtain ⟨a, cap, h1, h2, h3, h4⟩ := h
  refine ⟨a, cap, h1, h2, h3, fun hl => ?_⟩
  obtain ⟨b, o, e, hb, hp⟩ := h4 hl
  exact ⟨b, o, e, hpq hl b o hb hp⟩
theorem Items.move {w w' : World} {g g' : Nat → Prop} (hm : Moves w w' g g') (l : List Ins) : ∀ b o, w'.heap[b]? = w.heap[b]? → Items w g l b o → Items w' g' l b o := by
  refine ind (P := fun l => ∀ b o, w'.heap[b]? = w.heap[b]? → Items w g l b o → Items w' g' l b o) ?_ ?_ l
  · intro b o _ _; exact Items_nil _ _ _ _
  · intro op n al of re bo el ls r hbo hel hr b o hb h
    rw [Items_cons] at h ⊢
    obtain ⟨⟨vb, ve, vl, hc, h1, h2, h3⟩, h4⟩ := h
    refine ⟨⟨vb, ve, vl, hc.move hb, ?_, ?_, ?_⟩, hr b _ hb h4⟩
    · exact Lies.move h1 fun hl b' o' hne hp => have q := hm b' (Items_lt hp hl) (Items_kin hp hl) hne; ⟨q.1, hbo b' o' q.2 hp⟩
    · exact Lies.move h2 fun hl b' o' hne hp => have q := hm b' (Items_lt hp hl) (Items_kin hp hl) hne; ⟨q.1, hel b' o' q.2 hp⟩
    · exact Lies.move h3 fun hl b' o' hne hp => have q := hm b' (Lab_lt hp hl) (Lab_kin hp hl) hne; ⟨q.1, hp.move q.2⟩
theorem Code.move {w w' : World} {g g' : Nat → Prop} (hm : Moves w w' g g') {l : List Ins} {v : Value} (h : Code w g l v) : Code w' g' l v :=
  Lies.move h fun hl b o hne hp => have q := hm b (Items_lt hp hl) (Items_kin hp hl) hne; ⟨q.1, Items.move hm l b o q.2 hp⟩
theorem Labs.move {w w' : World} {g g' : Nat → Prop} (hm : Moves w w' g g') {ls : List Int} {v : Value} (h : Lies g ls.length (Lab w ls) v) : Lies g' ls.length (Lab w' ls) v :=
  Lies.move h fun hl b o hne hp => have q := hm b (Lab_lt hp hl) (Lab_kin hp hl) hne; ⟨q.1, hp.move q.2⟩
theorem ItemAt.move {w w' : World} {g g' : Nat → Prop} (hm : Moves w w' g g') {i : Ins} {b o : Nat} (hb : w'.heap[b]? = w.heap[b]?) (h : ItemAt w g i b o) : ItemAt w' g' i b o := by
  obtain ⟨vb, ve, vl, hc, h1, h2, h3⟩ := h
  exact ⟨vb, ve, vl, hc.move hb, h1.move hm, h2.move hm, Labs.move hm h3⟩
/-- nothing old has turned -/
theorem moves_below {w w' : World} {g g' : Nat → Prop} (hb : Below w.heap.size w w') (hg : ∀ k, k < w.heap.size → g k → g' k) : Moves w w' g g' := fun k hk _ hne =>
  ⟨hg k hk hne, hb.block k hk⟩
theorem Code.below {w w' : World} {g : Nat → Prop} {l : List Ins} {v : Value} (h : Code w g l v) (hb : Below w.heap.size w w') : Code w' g l v := h.move (moves_below hb (fun _ _ h => h))
theorem Labs.below {w w' : World} {g : Nat → Prop} {ls : List Int} {v : Value} (h : Lies g ls.length (Lab w ls) v) (hb : Below w.heap.size w w') : Lies g ls.length (Lab w' ls) v := Labs.move (moves_below hb (fun _ _ h => h)) h
theorem Code.any {w : World} {g : Nat → Prop} {l : List Ins} {v : Value} (h : Code w g l v) {g' : Nat → Prop} (hg : ∀ k, k < w.heap.size → g k → g' k) : Code w g' l v := h.move (moves_below (Below.refl _ _) hg)
theorem Labs.any {w : World} {g : Nat → Prop} {ls : List Int} {v : Value} (h : Lies g ls.length (Lab w ls) v) {g' : Nat → Prop} (hg : ∀ k, k < w.heap.size → g k → g' k) : Lies g' ls.length (Lab w ls) v := Labs.move (moves_below (Below.refl _ _) hg) h
/-- the empty list -/
theorem Code_nil (w : World) (g : Nat → Prop) : Code w g [] (.slice none 0 0) := ⟨none, 0, rfl, Nat.le_refl _, fun _ => rfl, fun h => absurd h (by simp)⟩
theorem Labs_nil (w : World) (g : Nat → Prop) : Lies g ([] : List Int).length (Lab w []) (.slice none 0 0) := ⟨none, 0, rfl, Nat.le_refl _, fun _ => rfl, fun h => absurd h (by simp)⟩

/-- eight cells, as values -/
def cel (i : Ins) (vb ve vl : Value) : List Value := [.int .u8 i.op, .int .i64 i.n, .int .u32 i.al, .int .u32 i.of, .int .u8 i.re, vb, ve, vl]
/-- the cells of a list of instructions -/
def Its (w : World) (g : Nat → Prop) : List Ins → List Value → Prop
  | [], xs => xs = []
  | i :: r, xs => ∃ vb ve vl ys, xs = cel i vb ve vl ++ ys ∧ Code w g i.body vb ∧ Code w g i.els ve ∧ Lies g i.ls.length (Lab w i.ls) vl ∧ Its w g r ys
theorem Its.snoc {w : World} {g : Nat → Prop} {i : Ins} {vb ve vl : Value} (h1 : Code w g i.body vb) (h2 : Code w g i.els ve) (h3 : Lies g i.ls.length (Lab w i.ls) vl) :
    ∀ {l : List Ins} {xs : List Value}, Its w g l xs → Its w g (l ++ [i]) (xs ++ cel i vb ve vl) := by
  intro l
  induction l with
  | nil => intro xs h; cases (show xs = [] from h); exact ⟨vb, ve, vl, [], by simp, h1, h2, h3, rfl⟩
  | cons x r ih =>
    rintro xs ⟨vb', ve', vl', ys, rfl, a1, a2, a3, a4⟩
    exact ⟨vb', ve', vl', ys ++ cel i vb ve vl, by simp, a1, a2, a3, ih a4⟩
theorem Its.move {w w' : World} {g g' : Nat → Prop} (hm : Moves w w' g g') : ∀ {l : List Ins} {xs : List Value}, Its w g l xs → Its w' g' l xs := by
  intro l
  induction l with
  | nil => intro xs h; exact h
  | cons x r ih =>
    rintro xs ⟨vb, ve, vl, ys, rfl, a1, a2, a3, a4⟩
    exact ⟨vb, ve, vl, ys, rfl, a1.move hm, a2.move hm, Labs.move hm a3, ih a4⟩
theorem Its.len {w : World} {g : Nat → Prop} : ∀ {l : List Ins} {xs : List Value}, Its w g l xs → xs.length = l.length * 8 := by
  intro l
  induction l with
  | nil => intro xs h; cases (show xs = [] from h); rfl
  | cons x r ih =>
    rintro xs ⟨vb, ve, vl, ys, rfl, a1, a2, a3, a4⟩
    rw [List.length_append, ih a4, List.length_cons]; simp [cel]; omega
/-- such cells, lying in a row -/
theorem Its.items {w : World} {g : Nat → Prop} {b : Nat} : ∀ {l : List Ins} {xs : List Value} {o : Nat}, Its w g l xs → (∀ j u, xs[j]? = some u → w.cell? ⟨b, o + j, none⟩ = some u) → Items w g l b o := by
  intro l
  induction l with
  | nil => intro xs o _ _; exact Items_nil _ _ _ _
  | cons x r ih =>
    rintro xs o ⟨vb, ve, vl, ys, rfl, a1, a2, a3, a4⟩ hc
    rw [Items_cons]
    refine ⟨⟨vb, ve, vl, ⟨hc 0 _ rfl, hc 1 _ rfl, hc 2 _ rfl, hc 3 _ rfl, hc 4 _ rfl, hc 5 _ rfl, hc 6 _ rfl, hc 7 _ rfl⟩, a1, a2, a3⟩, ih a4 fun j u hj => ?_⟩
    rw [show o + 8 + j = o + (8 + j) by omega]
    refine hc (8 + j) u ?_
    rw [List.getElem?_append_right (by simp [cel])]
    simpa [cel] using hj

/-- a list of the call's own: what is in it lies elsewhere, in blocks that G lets -/
def own (G : Nat → Prop) (v : Value) (k : Nat) : Prop := v.ownBlock ≠ some k ∧ G k
def OwnC (w : World) (B : Nat) (G : Nat → Prop) (v : Value) (l : List Ins) : Prop := ∃ xs, w.ownsRow B 50 8 v l.length xs ∧ Its w (own G v) l xs
theorem OwnC_nil (w : World) (B : Nat) (G : Nat → Prop) : OwnC w B G (.slice none 0 0) [] := ⟨[], World.ownsRow_nil _ _ _ _, rfl⟩
theorem row_cells {w : World} {B e size n cap g : Nat} {xs : List Value} (h : w.ownsRow B e size (.slice (some ⟨g, 0, none⟩) n cap) n xs) : ∀ j u, xs[j]? = some u → w.cell? ⟨g, j, none⟩ = some u := by
  intro j u hj
  rcases h.2 with ⟨h1, _⟩ | ⟨g', cap', cur, h1, _, hc, _, _, _, ht⟩
  · simp at h1
  · simp at h1
    obtain ⟨rfl, rfl⟩ := h1
    rw [cell_of_row w g j cur e _ hc]
    rw [← ht, List.getElem?_take] at hj
    split at hj
    · rw [← Array.getElem?_toList]; exact hj
    · cases hj
theorem OwnC.code {w : World} {B : Nat} {G : Nat → Prop} {v : Value} {l : List Ins} (h : OwnC w B G v l) {g' : Nat → Prop} (hg' : ∀ k, k < w.heap.size → G k ∨ B ≤ k → g' k) : Code w g' l v := by
  obtain ⟨xs, hx, hi⟩ := h
  have hx0 := hx
  rcases hx.2 with ⟨rfl, h0⟩ | ⟨g, cap, cur, rfl, hg, hc, hn, _⟩
  · rw [List.eq_nil_of_length_eq_zero h0]; exact Code_nil _ _
  · have hlt : g < w.heap.size := (Array.getElem?_eq_some_iff.1 hc).1
    refine ⟨_, cap, rfl, hn, by simp, fun hl => ⟨g, 0, rfl, hg' g hlt (.inr hg), ?_⟩⟩
    have : Items w (own G (.slice (some ⟨g, 0, none⟩) l.length cap)) l g 0 := Its.items hi fun j u hj => by rw [Nat.zero_add]; exact row_cells hx0 j u hj
    exact Items.move (moves_below (Below.refl _ _) (fun k hk h => hg' k hk (.inl h.2))) l g 0 rfl this
theorem OwnC.shape {w : World} {B : Nat} {G : Nat → Prop} {v : Value} {l : List Ins} (h : OwnC w B G v l) : ∃ a cap, v = .slice a l.length cap ∧ l.length ≤ cap := by
  obtain ⟨xs, hx, hi⟩ := h
  rcases hx.2 with ⟨rfl, h0⟩ | ⟨g, cap, cur, rfl, hg, hc, hn, _⟩
  · exact ⟨none, 0, by rw [h0], by omega⟩
  · exact ⟨_, cap, rfl, hn⟩
/-- behind calls that turn none of it -/
theorem OwnC.move {w w' : World} {B : Nat} {G : Nat → Prop} {v : Value} {l : List Ins} (h : OwnC w B G v l) (ho : ∀ k, v.ownBlock = some k → w'.heap[k]? = w.heap[k]?) (hm : Moves w w' (own G v) (own G v)) : OwnC w' B G v l := by
  obtain ⟨xs, hx, hi⟩ := h
  rcases hx.2 with ⟨rfl, h0⟩ | ⟨g, cap, cur, rfl, hg, hc, hn, h5⟩
  · have hl : l = [] := List.eq_nil_of_length_eq_zero h0
    subst hl
    exact OwnC_nil _ _ _
  · exact ⟨xs, ⟨hx.1, .inr ⟨g, cap, cur, rfl, hg, (ho g rfl).trans hc, hn, h5⟩⟩, Its.move hm hi⟩
theorem OwnC.lt {w : World} {B : Nat} {G : Nat → Prop} {v : Value} {l : List Ins} (h : OwnC w B G v l) : ∀ k, v.ownBlock = some k → B ≤ k ∧ k < w.heap.size := by
  obtain ⟨xs, hx, hi⟩ := h
  exact hx.lt
theorem OwnC.below {w w' : World} {B : Nat} {G : Nat → Prop} {v : Value} {l : List Ins} (h : OwnC w B G v l) (hb : Below w.heap.size w w') : OwnC w' B G v l :=
  h.move (fun k hk => hb.block k (h.lt k hk).2) (moves_below hb (fun _ _ h => h))
/-- the block of such a list -/
theorem OwnC.block {w : World} {B : Nat} {G : Nat → Prop} {v : Value} {l : List Ins} (h : OwnC w B G v l) : ∀ k, v.ownBlock = some k → ∃ cur, w.heap[k]? = some (.cells cur 50 (0, 0)) := by
  obtain ⟨xs, hx, hi⟩ := h
  intro k hk
  rcases hx.2 with ⟨rfl, h0⟩ | ⟨g, cap, cur, rfl, hg, hc, hn, h5⟩
  · cases hk
  · cases hk; exact ⟨cur, hc⟩
/-- one more -/
theorem OwnC.snoc {w w1 : World} {B H : Nat} {G : Nat → Prop} {v : Value} {l : List Ins} {xs : List Value} {i : Ins} {vb ve vl : Value} {g cap : Nat}
    (hx : w.ownsRow B 50 8 v l.length xs) (hi : Its w (own G v) l xs) (h1 : Code w (own G v) i.body vb) (h2 : Code w (own G v) i.els ve) (h3 : Lies (own G v) i.ls.length (Lab w i.ls) vl)
    (hown : w1.ownsRow B 50 8 (.slice (some ⟨g, 0, none⟩) (l.length + 1) cap) (l.length + 1) (xs ++ cel i vb ve vl)) (hgrow : w.grownBy w1 v.ownBlock) (hat : v.ownBlock = some g ∨ g = H) (hH : w.heap.size = H) :
    OwnC w1 B G (.slice (some ⟨g, 0, none⟩) (l.length + 1) cap) (l ++ [i]) := by
  refine ⟨xs ++ cel i vb ve vl, by simpa using hown, ?_⟩
  have hm : Moves w w1 (own G v) (own G (.slice (some ⟨g, 0, none⟩) (l.length + 1) cap)) := by
    intro k hk _ hne
    have hk2 : some k ≠ v.ownBlock := fun e => hne.1 e.symm
    refine ⟨⟨?_, hne.2⟩, hgrow.block k hk hk2⟩
    intro e
    simp only [Value.ownBlock, Option.some.injEq] at e
    subst e
    rcases hat with e | e
    · exact hk2 e.symm
    · omega
  exact Its.snoc (h1.move hm) (h2.move hm) (Labs.move hm h3) (Its.move hm hi)
end Ex
end Go.Proofs.YtjhmglefejclpaaDoor

/- slices.Equal of labels. -/
namespace Go.Proofs.YtjhmglefejclpaaDoor
open Go.RowKit
namespace Ex
set_option linter.unusedVariables false

theorem ls_ne {la lb : List Int} (j : Nat) (h : ¬ la.getD j 0 = lb.getD j 0) : (la == lb) = false := by
  rw [beq_eq_false_iff_ne]; rintro rfl; exact h rfl
theorem ls_eq {la lb : List Int} (hl : la.length = lb.length) (h : ∀ i, i < la.length → la.getD i 0 = lb.getD i 0) : (la == lb) = true := by
  rw [beq_iff_eq]
  refine List.ext_getElem hl fun j h1 h2 => ?_
  have := h j h1
  simpa [List.getD, List.getElem?_eq_getElem h1, List.getElem?_eq_getElem h2] using this
theorem drewN_add (w : World) (a b : Nat) : (w.drewN a).drewN b = w.drewN (a + b) := by
  rw [World.drewN_drewN]

set_option maxRecDepth 100000 in
set_option maxHeartbeats 1000000 in
theorem equal_any {g g2 : Nat → Prop} {va vb : Value} {la lb : List Int} {w : World} (ha : Lies g la.length (Lab w la) va) (hb : Lies g2 lb.length (Lab w lb) vb) (h1 : la.length ≤ 1099511627776) (h2 : lb.length ≤ 1099511627776) :
    Calls Tryd.prog 28 #[va, vb] w fun e w' => e = .returned (.bool (la == lb)) ∧ Below w.heap.size w w' := by
  obtain ⟨a, ca, rfl, hca, _, hA⟩ := ha
  obtain ⟨b, cb, rfl, hcb, _, hB⟩ := hb
  by_cases hl : la.length = lb.length
  · rw [← hl] at hB hcb ⊢
    have heq := fun h => ls_eq hl h
    have HEq := hide heq; have HL := hide hl; clear heq hl h2
    by_cases h0 : 0 < la.length
    · obtain ⟨ba, oa, rfl, _, hla⟩ := hA h0
      obtain ⟨bb, ob, rfl, _, hlb⟩ := hB h0
      have HLa := hide hla; have HLb := hide hlb
      clear hA hB hla hlb
      have hne := fun j h => ls_ne (la := la) (lb := lb) j h
      have HNe := hide hne; clear hne
      unfold Lab at HLa HLb
      generalize hn : la.length = n at *
      have HN := hide hn; clear hn
      go_enter Tryd.func28, Tryd.ntmps28
      go_wp2_with fail
      go_loopw [13] (fun c wr => ∃ j : Nat, c = .int .i64 j ∧ (j : Int) ≤ n ∧ (∀ i, i < j → la.getD i 0 = lb.getD i 0) ∧ ∃ k, wr = w.drewN k) (fun c _ => n - (intOf c).toNat)
      case atStart => exact ⟨0, rfl, by omega, fun i hi => absurd hi (by omega), 0, rfl⟩
      case round =>
        obtain ⟨j, rfl, hj, hall, k, rfl⟩ := hrel
        have HAll := hide hall; clear hall
        by_cases hlt : (j : Int) < n
        · have c1 := unhide HLa j (by omega)
          have c2 := unhide HLb j (by have := unhide HN; have := unhide HL; omega)
          generalize hx : la.getD j 0 = x at *
          generalize hy : lb.getD j 0 = y at *
          have HX := hide hx; have HY := hide hy; clear hx hy hj
          by_cases he : x = y
          · subst he
            go_wp2_with fail
            go_quiet (fail)
            go_wp2
            go_roundw
            case rel => exact ⟨j + 1, by go_num, by omega, fun i hi => by
              by_cases e : i = j
              · subst e; rw [unhide HX, unhide HY]
              · exact unhide HAll i (by omega), _, rfl⟩
            case measure => simp [intOf]; omega
          · have t : (x != y) = true := by simpa using he
            have hf := unhide HNe j (by rw [unhide HX, unhide HY]; exact he)
            have HF := hide hf
            clear he hf
            go_wp2_with fail
            go_quiet (fail)
            go_wp2
            go_ret
            exact ⟨ret_bool (unhide HF).symm, ⟨rfl, rfl, rfl, Nat.le_refl _, fun _ _ => rfl⟩⟩
        · obtain rfl : j = n := by omega
          have hf := unhide HEq (unhide HAll)
          have HF := hide hf
          clear hf hj hlt
          go_wp2
          go_ret
          exact ⟨ret_bool (unhide HF).symm, ⟨rfl, rfl, rfl, Nat.le_refl _, fun _ _ => rfl⟩⟩
    · have hz : la.length = 0 := by omega
      have ht := unhide HEq (fun i hi => absurd hi (by omega))
      rw [ht, hz]
      clear ht HEq hA hB hcb hca h0 hz h1 HL
      go_enter Tryd.func28, Tryd.ntmps28
      go_wp2_with fail
      go_loopw [13] (fun c wr => c = .int .i64 0 ∧ wr = w) (fun c _ => 0)
      case atStart => exact ⟨rfl, rfl⟩
      case round =>
        obtain ⟨rfl, rfl⟩ := hrel
        go_wp2
        go_ret
        exact ⟨rfl, Below.refl _ _⟩
  · have hf : (la == lb) = false := by rw [beq_eq_false_iff_ne]; rintro rfl; exact hl rfl
    have t : ((la.length : Int) != (lb.length : Int)) = true := by simp; omega
    rw [hf]
    clear hf hl hA hB
    generalize la.length = n at *
    generalize lb.length = m at *
    go_enter Tryd.func28, Tryd.ntmps28
    go_wp2
    go_ret
    exact ⟨rfl, Below.refl _ _⟩
end Ex
end Go.Proofs.YtjhmglefejclpaaDoor

/- expr.Same: its closure, slices.EqualFunc at it, and itself, by induction on the instructions. -/
namespace Go.Proofs.YtjhmglefejclpaaDoor
open Go.RowKit
namespace Ex
set_option linter.unusedVariables false

def SameP (a : List Ins) : Prop := ∀ (b : List Ins) (g g2 : Nat → Prop) (va vb : Value) (w : World), Code w g a va → Code w g2 b vb → a.length ≤ 1099511627776 → Sz 1099511627776 a → b.length ≤ 1099511627776 → Sz 1099511627776 b →
  Calls Tryd.prog 16 #[va, vb] w fun e w' => e = .returned (.bool (same a b)) ∧ Below w.heap.size w w'

theorem two_allocs (w : World) (o p : Obj) : Below w.heap.size w ((w.alloc o).alloc p) := ((Below.refl _ _).alloc (Nat.le_refl _) _).alloc (by simp) _
theorem two_boxes (w : World) (a b : Array Value) (t : TypeId) : Below w.heap.size w ((w.alloc (.cells a t)).alloc (.cells b t)) ∧ (∀ j : Nat, ((w.alloc (.cells a t)).alloc (.cells b t)).cell? ⟨w.heap.size, j, none⟩ = a[j]?) ∧
    (∀ j : Nat, ((w.alloc (.cells a t)).alloc (.cells b t)).cell? ⟨w.heap.size + 1, j, none⟩ = b[j]?) ∧ ((w.alloc (.cells a t)).alloc (.cells b t)).heap.size = w.heap.size + 2 :=
  ⟨two_allocs _ _ _, fun j => by simp, fun j => by simp, by simp⟩
theorem one_alloc (w : World) (o : Obj) : Below w.heap.size w (w.alloc o) := (Below.refl _ _).alloc (Nat.le_refl _) _

set_option maxRecDepth 100000 in
set_option maxHeartbeats 1600000 in
theorem same1 (x y : Ins) (hb : SameP x.body) (he : SameP x.els) {g g2 : Nat → Prop} {vb ve vl vb2 ve2 vl2 : Value} (w : World)
    (h1 : Code w g x.body vb) (h2 : Code w g x.els ve) (h3 : Lies g x.ls.length (Lab w x.ls) vl) (k1 : Code w g2 y.body vb2) (k2 : Code w g2 y.els ve2) (k3 : Lies g2 y.ls.length (Lab w y.ls) vl2)
    (sx : SzI 1099511627776 x) (sy : SzI 1099511627776 y) :
    Calls Tryd.prog 27 #[.agg #[.int .u8 x.op, .int .i64 x.n, .int .u32 x.al, .int .u32 x.of, .int .u8 x.re, vb, ve, vl], .agg #[.int .u8 y.op, .int .i64 y.n, .int .u32 y.al, .int .u32 y.of, .int .u8 y.re, vb2, ve2, vl2]] w fun e w' =>
      e = .returned (.bool (sameI x y)) ∧ Below w.heap.size w w' := by
  obtain ⟨op, n, al, of, re, bo, el, ls⟩ := x
  obtain ⟨op2, n2, al2, of2, re2, bo2, el2, ls2⟩ := y
  simp only at *
  have H1 := hide h1; have H2 := hide h2; have H3 := hide h3; have K1 := hide k1; have K2 := hide k2; have K3 := hide k3
  obtain ⟨ab, cb, rfl, _⟩ := h1
  obtain ⟨ae, ce, rfl, _⟩ := h2
  obtain ⟨al3, cl, rfl, _⟩ := h3
  obtain ⟨ab2, cb2, rfl, _⟩ := k1
  obtain ⟨ae2, ce2, rfl, _⟩ := k2
  obtain ⟨al4, cl2, rfl, _⟩ := k3
  have HB := hide hb; have HE := hide he; have SX := hide sx; have SY := hide sy
  clear hb he sx sy
  by_cases e0 : op = op2
  case neg =>
    have t : (op == op2) = false := by simpa using e0
    have hf : sameI ⟨op, n, al, of, re, bo, el, ls⟩ ⟨op2, n2, al2, of2, re2, bo2, el2, ls2⟩ = false := by simp [sameI, e0]
    have HF := hide hf
    clear hf e0 HB HE
    generalize ls.length = ll at *; generalize ls2.length = ll2 at *; generalize bo.length = lb at *; generalize bo2.length = lb2 at *; generalize el.length = le at *; generalize el2.length = le2 at *
    go_enter Tryd.func27, Tryd.ntmps27
    go_wp2
    go_ret
    exact ⟨ret_bool (unhide HF).symm, two_allocs _ _ _⟩
  subst e0
  by_cases e1 : n = n2
  case neg =>
    have t : (n == n2) = false := by simpa using e1
    have hf : sameI ⟨op, n, al, of, re, bo, el, ls⟩ ⟨op, n2, al2, of2, re2, bo2, el2, ls2⟩ = false := by simp [sameI, e1]
    have HF := hide hf
    clear hf e1 HB HE
    generalize ls.length = ll at *; generalize ls2.length = ll2 at *; generalize bo.length = lb at *; generalize bo2.length = lb2 at *; generalize el.length = le at *; generalize el2.length = le2 at *
    go_enter Tryd.func27, Tryd.ntmps27
    go_wp2
    go_ret
    exact ⟨ret_bool (unhide HF).symm, two_allocs _ _ _⟩
  subst e1
  by_cases e2 : al = al2
  case neg =>
    have t : (al == al2) = false := by simpa using e2
    have hf : sameI ⟨op, n, al, of, re, bo, el, ls⟩ ⟨op, n, al2, of2, re2, bo2, el2, ls2⟩ = false := by simp [sameI, e2]
    have HF := hide hf
    clear hf e2 HB HE
    generalize ls.length = ll at *; generalize ls2.length = ll2 at *; generalize bo.length = lb at *; generalize bo2.length = lb2 at *; generalize el.length = le at *; generalize el2.length = le2 at *
    go_enter Tryd.func27, Tryd.ntmps27
    go_wp2
    go_ret
    exact ⟨ret_bool (unhide HF).symm, two_allocs _ _ _⟩
  subst e2
  by_cases e3 : of = of2
  case neg =>
    have t : (of == of2) = false := by simpa using e3
    have hf : sameI ⟨op, n, al, of, re, bo, el, ls⟩ ⟨op, n, al, of2, re2, bo2, el2, ls2⟩ = false := by simp [sameI, e3]
    have HF := hide hf
    clear hf e3 HB HE
    generalize ls.length = ll at *; generalize ls2.length = ll2 at *; generalize bo.length = lb at *; generalize bo2.length = lb2 at *; generalize el.length = le at *; generalize el2.length = le2 at *
    go_enter Tryd.func27, Tryd.ntmps27
    go_wp2
    go_ret
    exact ⟨ret_bool (unhide HF).symm, two_allocs _ _ _⟩
  subst e3
  by_cases e4 : re = re2
  case neg =>
    have t : (re == re2) = false := by simpa using e4
    have hf : sameI ⟨op, n, al, of, re, bo, el, ls⟩ ⟨op, n, al, of, re2, bo2, el2, ls2⟩ = false := by simp [sameI, e4]
    have HF := hide hf
    clear hf e4 HB HE
    generalize ls.length = ll at *; generalize ls2.length = ll2 at *; generalize bo.length = lb at *; generalize bo2.length = lb2 at *; generalize el.length = le at *; generalize el2.length = le2 at *
    go_enter Tryd.func27, Tryd.ntmps27
    go_wp2
    go_ret
    exact ⟨ret_bool (unhide HF).symm, two_allocs _ _ _⟩
  subst e4
  have HS := hide (show sameI ⟨op, n, al, of, re, bo, el, ls⟩ ⟨op, n, al, of, re, bo2, el2, ls2⟩ = ((ls == ls2) && same bo bo2 && same el el2) by simp [sameI])
  go_enter Tryd.func27, Tryd.ntmps27
  go_wp2_with fail
  obtain ⟨hb0, f5, s5, hz⟩ := two_boxes w #[.int .u8 op, .int .i64 n, .int .u32 al, .int .u32 of, .int .u8 re, .slice ab bo.length cb, .slice ae el.length ce, .slice al3 ls.length cl] #[.int .u8 op, .int .i64 n, .int .u32 al, .int .u32 of, .int .u8 re, .slice ab2 bo2.length cb2, .slice ae2 el2.length ce2, .slice al4 ls2.length cl2] 50
  generalize (w.alloc (.cells #[.int .u8 op, .int .i64 n, .int .u32 al, .int .u32 of, .int .u8 re, .slice ab bo.length cb, .slice ae el.length ce, .slice al3 ls.length cl] 50)).alloc (.cells #[.int .u8 op, .int .i64 n, .int .u32 al, .int .u32 of, .int .u8 re, .slice ab2 bo2.length cb2, .slice ae2 el2.length ce2, .slice al4 ls2.length cl2] 50) = w2 at *
  have c5 : w2.cell? ⟨w.heap.size, 5, none⟩ = some (.slice ab bo.length cb) := f5 5
  have c6 : w2.cell? ⟨w.heap.size, 6, none⟩ = some (.slice ae el.length ce) := f5 6
  have d5 : w2.cell? ⟨w.heap.size + 1, 5, none⟩ = some (.slice ab2 bo2.length cb2) := s5 5
  have d6 : w2.cell? ⟨w.heap.size + 1, 6, none⟩ = some (.slice ae2 el2.length ce2) := s5 6
  clear f5 s5
  refine (equal_any (Labs.below (unhide H3) hb0) (Labs.below (unhide K3) hb0) (unhide SX).2.2.1 (unhide SY).2.2.1).mono ?_
  rintro e w3 ⟨rfl, hb3⟩
  have hbb := Below.on hb0 hb3
  have hz3 := hb3.size
  replace c5 := (hb3.cell (p := ⟨w.heap.size, 5, none⟩) (by simp only; omega)).trans c5
  replace c6 := (hb3.cell (p := ⟨w.heap.size, 6, none⟩) (by simp only; omega)).trans c6
  replace d5 := (hb3.cell (p := ⟨w.heap.size + 1, 5, none⟩) (by simp only; omega)).trans d5
  replace d6 := (hb3.cell (p := ⟨w.heap.size + 1, 6, none⟩) (by simp only; omega)).trans d6
  have HBB := hide hbb; have HZ := hide (show w.heap.size + 2 ≤ w3.heap.size by omega)
  clear hb3 hb0 hbb hz hz3
  cases hls : (ls == ls2) with
  | false =>
    have HF := hide (show sameI ⟨op, n, al, of, re, bo, el, ls⟩ ⟨op, n, al, of, re, bo2, el2, ls2⟩ = false by rw [unhide HS, hls]; rfl)
    clear hls
    go_wp2
    go_ret
    exact ⟨ret_bool (unhide HF).symm, unhide HBB⟩
  | true =>
    have HLs := hide hls; have C6 := hide (And.intro c6 d6)
    clear hls c6 d6
    go_wp2_with fail
    refine (unhide HB bo2 g g2 _ _ w3 (Code.below (unhide H1) (unhide HBB)) (Code.below (unhide K1) (unhide HBB)) (unhide SX).1 (unhide SX).2.2.2.1 (unhide SY).1 (unhide SY).2.2.2.1).mono ?_
    rintro e w4 ⟨rfl, hb4⟩
    have hbb4 := Below.on (unhide HBB) hb4
    have c6 := (hb4.cell (p := ⟨w.heap.size, 6, none⟩) (by have := unhide HZ; simp only; omega)).trans (unhide C6).1
    have d6 := (hb4.cell (p := ⟨w.heap.size + 1, 6, none⟩) (by have := unhide HZ; simp only; omega)).trans (unhide C6).2
    have HB4 := hide hbb4
    clear hb4 hbb4 c5 d5 C6 HBB HZ
    cases hbo : same bo bo2 with
    | false =>
      have HF := hide (show sameI ⟨op, n, al, of, re, bo, el, ls⟩ ⟨op, n, al, of, re, bo2, el2, ls2⟩ = false by rw [unhide HS, hbo]; simp)
      clear hbo
      go_wp2
      go_ret
      exact ⟨ret_bool (unhide HF).symm, unhide HB4⟩
    | true =>
      have HBo := hide hbo
      clear hbo
      go_wp2_with fail
      refine (unhide HE el2 g g2 _ _ w4 (Code.below (unhide H2) (unhide HB4)) (Code.below (unhide K2) (unhide HB4)) (unhide SX).2.1 (unhide SX).2.2.2.2 (unhide SY).2.1 (unhide SY).2.2.2.2).mono ?_
      rintro e w5 ⟨rfl, hb5⟩
      have HB5 := hide (Below.on (unhide HB4) hb5)
      have HF := hide (show sameI ⟨op, n, al, of, re, bo, el, ls⟩ ⟨op, n, al, of, re, bo2, el2, ls2⟩ = same el el2 by rw [unhide HS, unhide HLs, unhide HBo]; simp)
      clear hb5 c6 d6
      go_wp2
      go_ret
      exact ⟨ret_bool (unhide HF).symm, unhide HB5⟩
end Ex
end Go.Proofs.YtjhmglefejclpaaDoor

/- slices.EqualFunc at expr.Same's closure; expr.Same. -/
namespace Go.Proofs.YtjhmglefejclpaaDoor
open Go.RowKit
namespace Ex
set_option linter.unusedVariables false

set_option maxRecDepth 100000 in
set_option maxHeartbeats 1600000 in
theorem eqf_any (a : List Ins) (ih : ∀ i ∈ a, SameP i.body ∧ SameP i.els) (b : List Ins) {g g2 : Nat → Prop} {va vb : Value} (w : World) (ha : Code w g a va) (hb : Code w g2 b vb)
    (l1 : a.length ≤ 1099511627776) (z1 : Sz 1099511627776 a) (l2 : b.length ≤ 1099511627776) (z2 : Sz 1099511627776 b) :
    Calls Tryd.prog 26 #[va, vb, .func (.func 27) #[] #[]] w fun e w' => e = .returned (.bool (same a b)) ∧ Below w.heap.size w w' := by
  obtain ⟨aa, ca, rfl, hca, _, hA⟩ := ha
  obtain ⟨ab, cb, rfl, hcb, _, hB⟩ := hb
  by_cases hl : a.length = b.length
  · rw [← hl] at hB hcb ⊢
    have HIh := hide ih; have HL := hide hl; have Z1 := hide z1; have Z2 := hide z2
    clear ih hl z1 z2 l2
    by_cases h0 : 0 < a.length
    · obtain ⟨ba, oa, rfl, _, hla⟩ := hA h0
      obtain ⟨bb, ob, rfl, _, hlb⟩ := hB h0
      have HLa := hide hla; have HLb := hide hlb
      clear hA hB hla hlb
      generalize hn : a.length = n at *
      have HN := hide hn; clear hn
      go_enter Tryd.func26, Tryd.ntmps26
      go_wp2_with fail
      go_loopw [17] (fun c wr => ∃ j : Nat, c = .int .i64 j ∧ (j : Int) ≤ n ∧ (∀ i (h1 : i < a.length) (h2 : i < b.length), i < j → sameI a[i] b[i] = true) ∧ Below w.heap.size w wr) (fun c _ => n - (intOf c).toNat)
      case atStart => exact ⟨0, rfl, by omega, fun i _ _ hi => absurd hi (by omega), Below.refl _ _⟩
      case round =>
        obtain ⟨j, rfl, hj, hall, hbel⟩ := hrel
        have HAll := hide hall; have HBel := hide hbel; clear hall hbel
        by_cases hlt : (j : Int) < n
        · have ja : j < a.length := by have := unhide HN; omega
          have jb : j < b.length := by have := unhide HN; have := unhide HL; omega
          have hmA : Moves w wr g g := moves_below (unhide HBel) (fun _ _ h => h)
          have hmB : Moves w wr g2 g2 := moves_below (unhide HBel) (fun _ _ h => h)
          have iA := ItemAt.move hmA ((unhide HBel).block ba (Items_lt (unhide HLa) (by omega))) (Items_get (unhide HLa) j ja)
          have iB := ItemAt.move hmB ((unhide HBel).block bb (Items_lt (unhide HLb) (by omega))) (Items_get (unhide HLb) j jb)
          have hI := unhide HIh a[j] (List.getElem_mem ja)
          have sA := Sz_get (unhide Z1) a[j] (List.getElem_mem ja)
          have sB := Sz_get (unhide Z2) b[j] (List.getElem_mem jb)
          have hS : sameI a[j] b[j] = sameI a[j] b[j] := rfl
          generalize hx : a[j] = x at *
          generalize hy : b[j] = y at *
          obtain ⟨vb, ve, vl, hc, h1, h2, h3⟩ := iA
          obtain ⟨vb2, ve2, vl2, hd, k1, k2, k3⟩ := iB
          have H1 := hide h1; have H2 := hide h2; have H3 := hide h3; have K1 := hide k1; have K2 := hide k2; have K3 := hide k3
          have HI := hide hI; have SA := hide sA; have SB := hide sB; have HX := hide hx; have HY := hide hy
          obtain ⟨c1, cb1, rfl, _⟩ := h1
          obtain ⟨c2, cb2, rfl, _⟩ := h2
          obtain ⟨c3, cb3, rfl, _⟩ := h3
          obtain ⟨d1, db1, rfl, _⟩ := k1
          obtain ⟨d2, db2, rfl, _⟩ := k2
          obtain ⟨d3, db3, rfl, _⟩ := k3
          obtain ⟨e0, e1, e2, e3, e4, e5, e6, e7⟩ := hc
          obtain ⟨f0, f1, f2, f3, f4, f5, f6, f7⟩ := hd
          clear hx hy hI sA sB hS hmA hmB hj
          have hlb : bb < wr.heap.size := World.block_lt_of_cell? wr _ f0
          go_wp2_with fail
          have hb0 := two_allocs wr (.cells #[.int .u8 x.op, .int .i64 x.n, .int .u32 x.al, .int .u32 x.of, .int .u8 x.re, .slice c1 x.body.length cb1, .slice c2 x.els.length cb2, .slice c3 x.ls.length cb3] 50) (.cells #[.int .u8 y.op, .int .i64 y.n, .int .u32 y.al, .int .u32 y.of, .int .u8 y.re, .slice d1 y.body.length db1, .slice d2 y.els.length db2, .slice d3 y.ls.length db3] 50)
          refine (same1 x y (unhide HI).1 (unhide HI).2 _ ((unhide H1).below hb0) ((unhide H2).below hb0) (Labs.below (unhide H3) hb0) ((unhide K1).below hb0) ((unhide K2).below hb0) (Labs.below (unhide K3) hb0) (unhide SA) (unhide SB)).mono ?_
          rintro e w3 ⟨rfl, hb3⟩
          have hbb := Below.on (unhide HBel) (Below.on hb0 hb3)
          have HBB := hide hbb
          clear hbb hb0 hb3 hlb e0 e1 e2 e3 e4 e5 e6 e7 f0 f1 f2 f3 f4 f5 f6 f7 H1 H2 H3 K1 K2 K3 HBel
          cases hs : sameI x y with
          | false =>
            have HF := hide (show same a b = false from same_not j ja jb (by rw [unhide HX, unhide HY]; exact hs))
            clear hs
            go_wp2
            go_ret
            exact ⟨ret_bool (unhide HF).symm, unhide HBB⟩
          | true =>
            have HT := hide hs
            clear hs
            go_wp2
            go_roundw
            case rel => exact ⟨j + 1, by go_num, by omega, fun i i1 i2 hi => by
              by_cases e : i = j
              · subst e; rw [unhide HX, unhide HY]; exact unhide HT
              · exact unhide HAll i i1 i2 (by omega), unhide HBB⟩
            case measure => simp [intOf]; omega
        · obtain rfl : j = n := by omega
          have HF := hide (show same a b = true from same_upto ((unhide HN).trans (unhide HL)) fun i i1 i2 => unhide HAll i i1 i2 (by have := unhide HN; omega))
          clear hj hlt
          go_wp2
          go_ret
          exact ⟨ret_bool (unhide HF).symm, unhide HBel⟩
    · have hz : a.length = 0 := by omega
      have ht : same a b = true := same_upto (unhide HL) fun i i1 i2 => absurd i1 (by omega)
      rw [ht, hz]
      clear ht hA hB hcb hca h0 hz HL l1
      go_enter Tryd.func26, Tryd.ntmps26
      go_wp2_with fail
      go_loopw [17] (fun c wr => c = .int .i64 0 ∧ wr = w) (fun c _ => 0)
      case atStart => exact ⟨rfl, rfl⟩
      case round =>
        obtain ⟨rfl, rfl⟩ := hrel
        go_wp2
        go_ret
        exact ⟨rfl, Below.refl _ _⟩
  · have hf : same a b = false := same_len hl
    have t : ((a.length : Int) != (b.length : Int)) = true := by simp; omega
    rw [hf]
    clear hf hl hA hB
    generalize a.length = n at *
    generalize b.length = m at *
    go_enter Tryd.func26, Tryd.ntmps26
    go_wp2
    go_ret
    exact ⟨rfl, Below.refl _ _⟩

set_option maxRecDepth 100000 in
theorem same_any (a : List Ins) : SameP a := by
  refine ind2 (P := SameP) (fun a ih => ?_) a
  intro b g g2 va vb w ha hb l1 z1 l2 z2
  have hq := eqf_any a ih b w ha hb l1 z1 l2 z2
  obtain ⟨aa, ca, rfl, _⟩ := ha
  obtain ⟨ab, cb, rfl, _⟩ := hb
  have HQ := hide hq; clear hq ih z1 z2
  go_enter Tryd.func16, Tryd.ntmps16
  go_wp2_with fail
  refine (unhide HQ).mono ?_
  rintro e w1 ⟨rfl, hb⟩
  have HB := hide hb; clear hb
  go_wp2
  go_ret
  exact ⟨rfl, unhide HB⟩
end Ex
end Go.Proofs.YtjhmglefejclpaaDoor

/- expr.Count. -/
namespace Go.Proofs.YtjhmglefejclpaaDoor
open Go.RowKit
namespace Ex
set_option linter.unusedVariables false
attribute [local go_sem ↓] Go.wp_at_zero Go.wp_at_succ

def CountP (l : List Ins) : Prop := ∀ (g : Nat → Prop) (v : Value) (w : World), Code w g l v → cnt l ≤ 1099511627776 →
  Calls Tryd.prog 13 #[v] w fun e w' => e = .returned (.int .i64 (cnt l : Nat)) ∧ Below w.heap.size w w'

theorem cnt_take {l : List Ins} {j : Nat} (h : j < l.length) : cnt (l.take (j + 1)) = cnt (l.take j) + 1 + cnt l[j].body + cnt l[j].els := by
  rw [List.take_succ_eq_append_getElem h, cnt_app, cnt_cons, cnt_nil]; omega
theorem cnt_take_le (l : List Ins) (j : Nat) : cnt (l.take j) + l.length ≤ cnt l + j := by
  have h := List.take_append_drop j l
  have h2 : cnt l = cnt (l.take j) + cnt (l.drop j) := by rw [← cnt_app, h]
  have := cnt_len (l.drop j)
  rw [List.length_drop] at this
  omega
theorem cnt_sub {l : List Ins} {i : Ins} (h : i ∈ l) : cnt i.body + cnt i.els + 1 ≤ cnt l := by
  induction l with
  | nil => simp at h
  | cons x r ih =>
    rw [cnt_cons]
    rcases List.mem_cons.1 h with rfl | h
    · omega
    · have := ih h; omega
theorem wr64 (x : Int) (h : -9223372036854775808 ≤ x ∧ x < 9223372036854775808) : IntKind.i64.wrap x = x := by rw [IntKind.wrap_i64]; omega
theorem below_drew (w : World) : Below w.heap.size w w.drew := ⟨rfl, rfl, rfl, Nat.le_refl _, fun _ _ => rfl⟩

set_option maxRecDepth 100000 in
set_option maxHeartbeats 3200000 in
theorem count_any (l : List Ins) : CountP l := by
  refine ind2 (P := CountP) (fun l ih => ?_) l
  intro g v w hv hm
  obtain ⟨a, ca, rfl, hca, _, hA⟩ := hv
  have hlen := cnt_len l
  by_cases h0 : 0 < l.length
  · obtain ⟨ba, oa, rfl, _, hla⟩ := hA h0
    have HLa := hide hla; have HIh := hide ih
    clear hA hla ih
    generalize hn : l.length = n at *
    have HN := hide hn; clear hn
    go_enter Tryd.func13, Tryd.ntmps13
    go_wp2_with fail
    go_loopw [3, 10] (fun s c wr => ∃ j : Nat, c = .int .i64 j ∧ (j : Int) ≤ n ∧ s = .int .i64 ((cnt (l.take j) : Int) + ((n : Int) - j)) ∧ Below w.heap.size w wr) (fun _ c _ => n - (intOf c).toNat)
    case atStart => exact ⟨0, rfl, by omega, by simp [cnt_nil], Below.refl _ _⟩
    case round =>
      obtain ⟨j, rfl, hj, rfl, hbel⟩ := hrel
      have HBel := hide hbel; clear hbel
      by_cases hlt : (j : Int) < n
      · have ja : j < l.length := by have := unhide HN; omega
        have hmA : Moves w wr g g := moves_below (unhide HBel) (fun _ _ h => h)
        have iA := ItemAt.move hmA ((unhide HBel).block ba (Items_lt (unhide HLa) (by omega))) (Items_get (unhide HLa) j ja)
        have hI := unhide HIh l[j] (List.getElem_mem ja)
        have hT := cnt_take ja
        have hL := cnt_take_le l j
        have hL2 := cnt_take_le l (j + 1)
        have hS := cnt_sub (List.getElem_mem ja)
        rw [unhide HN] at hL hL2
        generalize hx : l[j] = x at *
        have HX := hide hx
        obtain ⟨vb, ve, vl, hc, h1, h2, h3⟩ := iA
        have H1 := hide h1; have H2 := hide h2
        obtain ⟨c1, cb1, rfl, _⟩ := h1
        obtain ⟨c2, cb2, rfl, _⟩ := h2
        obtain ⟨c3, cb3, rfl, _⟩ := h3
        obtain ⟨e0, e1, e2, e3, e4, e5, e6, e7⟩ := hc
        have hb0 := one_alloc wr (.cells #[.int .u8 x.op, .int .i64 x.n, .int .u32 x.al, .int .u32 x.of, .int .u8 x.re, .slice c1 x.body.length cb1, .slice c2 x.els.length cb2, .slice c3 x.ls.length cb3] 50)
        have qb : ∀ wx, Below (wr.heap.size + 1) (wr.alloc (.cells #[.int .u8 x.op, .int .i64 x.n, .int .u32 x.al, .int .u32 x.of, .int .u8 x.re, .slice c1 x.body.length cb1, .slice c2 x.els.length cb2, .slice c3 x.ls.length cb3] 50)) wx →
            Calls Tryd.prog 13 #[.slice c1 x.body.length cb1] wx fun e w' => e = .returned (.int .i64 (cnt x.body : Nat)) ∧ Below wx.heap.size wx w' := fun wx hwx =>
          hI.1 g _ wx ((unhide H1).below (hb0.trans (hwx.mono (by omega)))) (by omega)
        have qe : ∀ wx, Below (wr.heap.size + 1) (wr.alloc (.cells #[.int .u8 x.op, .int .i64 x.n, .int .u32 x.al, .int .u32 x.of, .int .u8 x.re, .slice c1 x.body.length cb1, .slice c2 x.els.length cb2, .slice c3 x.ls.length cb3] 50)) wx →
            Calls Tryd.prog 13 #[.slice c2 x.els.length cb2] wx fun e w' => e = .returned (.int .i64 (cnt x.els : Nat)) ∧ Below wx.heap.size wx w' := fun wx hwx =>
          hI.2 g _ wx ((unhide H2).below (hb0.trans (hwx.mono (by omega)))) (by omega)
        have QB := hide qb; have QE := hide qe; have HB0 := hide hb0
        generalize hkb : cnt x.body = kb at *
        generalize hke : cnt x.els = ke at *
        generalize x.body.length = lb at *
        generalize x.els.length = le at *
        generalize hct : cnt (l.take j) = ct at *
        have HT := hide hT
        have hsum : (ct : Int) + ((n : Int) - j) + kb + ke ≤ 1099511627776 := by omega
        have hs0 : (0 : Int) ≤ kb ∧ (0 : Int) ≤ ke ∧ (0 : Int) ≤ ct := by omega
        clear hL hL2 hS
        clear qb qe hb0 hI hx hmA hj H1 H2 hkb hke hct hT
        go_wp2_with fail
        generalize hw2 : wr.alloc (.cells #[.int .u8 x.op, .int .i64 x.n, .int .u32 x.al, .int .u32 x.of, .int .u8 x.re, .slice c1 lb cb1, .slice c2 le cb2, .slice c3 x.ls.length cb3] 50) = w2 at *
        have g5 : w2.cell? ⟨wr.heap.size, 5, none⟩ = some (.slice c1 lb cb1) := by rw [← hw2]; simp
        have g6 : w2.cell? ⟨wr.heap.size, 6, none⟩ = some (.slice c2 le cb2) := by rw [← hw2]; simp
        have hz : w2.heap.size = wr.heap.size + 1 := by rw [← hw2]; simp
        have HZ := hide hz
        have HB1 := hide (Below.on (unhide HBel) (unhide HB0))
        clear HB0 HBel
        generalize wr.heap.size = N at *
        clear hw2 e0 e1 e2 e3 e4 e5 e6 e7 hz
        go_region_held3 (fun w' => w'.cell? ⟨N, 5, none⟩ = some (.slice c1 lb cb1) ∧ w'.cell? ⟨N, 6, none⟩ = some (.slice c2 le cb2)) (first | go_keep | exact ⟨r5, r6⟩)
          (first
            | (go_at_call_of 13 (Value.slice c1 lb cb1); refine (unhide QB _ ?_).mono ?_; (exact (below_drew _).mono (by rw [unhide HZ]; omega)); rintro e w3 ⟨rfl, hb3⟩; have r5 := (hb3.cell (p := ⟨N, 5, none⟩) (by show N < w2.heap.size; rw [unhide HZ]; omega)).trans g5; have r6 := (hb3.cell (p := ⟨N, 6, none⟩) (by show N < w2.heap.size; rw [unhide HZ]; omega)).trans g6)
            | (go_at_call_of 13 (Value.slice c2 le cb2); refine (unhide QE _ ?_).mono ?_; (exact ((below_drew w2).mono (by rw [unhide HZ]; omega)).trans (hb3.mono (by show N + 1 ≤ w2.heap.size; rw [unhide HZ]; omega))); have z3 : w2.heap.size ≤ w3.heap.size := hb3.size; rintro e w4 ⟨rfl, hb4⟩; have r5 := (hb4.cell (p := ⟨N, 5, none⟩) (by have := unhide HZ; show N < w3.heap.size; omega)).trans r5; have r6 := (hb4.cell (p := ⟨N, 6, none⟩) (by have := unhide HZ; show N < w3.heap.size; omega)).trans r6))
        have hbb := Below.on (unhide HB1) (Below.on (below_drew w2) (Below.on hb3 hb4))
        have HBB := hide hbb
        clear hbb hb3 hb4 r5 r6 g5 g6 z3
        go_wp2
        go_roundw
        case rel => exact ⟨j + 1, by go_num, by omega, congrArg (Value.int .i64) (by have := unhide HT; rw [wr64 (↑kb + ↑ke) (by omega), wr64 _ (by omega)]; omega), unhide HBB⟩
        case measure => simp [intOf]; omega
      · obtain rfl : j = n := by omega
        clear hj hlt
        go_wp2
        go_ret
        have : l.take j = l := by rw [← unhide HN]; exact List.take_length
        exact ⟨ret_int (by rw [this]; omega), unhide HBel⟩
  · have hl : l = [] := List.eq_nil_of_length_eq_zero (by omega)
    subst hl
    rw [cnt_nil]
    simp only [List.length_nil] at *
    clear hA hca h0 hlen hm ih
    go_enter Tryd.func13, Tryd.ntmps13
    go_wp2_with fail
    go_loopw [3, 10] (fun s c wr => s = .int .i64 0 ∧ c = .int .i64 0 ∧ wr = w) (fun _ c _ => 0)
    case atStart => exact ⟨rfl, rfl, rfl⟩
    case round =>
      obtain ⟨rfl, rfl, rfl⟩ := hrel
      go_wp2
      go_ret
      exact ⟨rfl, Below.refl _ _⟩
end Ex
end Go.Proofs.YtjhmglefejclpaaDoor

/- What bytes tell, by the document: the parts, one after another, and the first one that is wrong. Plain mathematics. -/
namespace Go.Proofs.YtjhmglefejclpaaDoor
open Go.RowKit
namespace Ex
set_option linter.unusedVariables false

/-- a part: the error, or 0; where the next one begins, or this one if it is wrong; what it tells -/
structure Part where
  e : Int
  at_ : Nat
  v : Int
/-- how a list, or an instruction, comes out: beside these how many there are so far -/
structure Out (α : Type) where
  e : Int
  at_ : Nat
  k : Nat
  v : α
def Part.on {β : Type} (p : Part) (k : Nat) (d : β) (f : Nat → Int → Out β) : Out β := if p.e = 0 then f p.at_ p.v else ⟨p.e, p.at_, k, d⟩
def Out.on {α β : Type} (x : Out α) (d : β) (f : Nat → Nat → α → Out β) : Out β := if x.e = 0 then f x.at_ x.k x.v else ⟨x.e, x.at_, x.k, d⟩
theorem Part.on_ok {β : Type} {p : Part} (h : p.e = 0) (k : Nat) (d : β) (f : Nat → Int → Out β) : p.on k d f = f p.at_ p.v := by unfold Part.on; rw [if_pos h]
theorem Part.on_no {β : Type} {p : Part} (h : ¬ p.e = 0) (k : Nat) (d : β) (f : Nat → Int → Out β) : p.on k d f = ⟨p.e, p.at_, k, d⟩ := by unfold Part.on; rw [if_neg h]
theorem Out.on_ok {α β : Type} {x : Out α} (h : x.e = 0) (d : β) (f : Nat → Nat → α → Out β) : x.on d f = f x.at_ x.k x.v := by unfold Out.on; rw [if_pos h]
theorem Out.on_no {α β : Type} {x : Out α} (h : ¬ x.e = 0) (d : β) (f : Nat → Nat → α → Out β) : x.on d f = ⟨x.e, x.at_, x.k, d⟩ := by unfold Out.on; rw [if_neg h]

/-- one byte, judged -/
def pB (zs : List Int) (a : Nat) (J : Int → Int) : Part :=
  if zs.length ≤ a then ⟨4, a, 0⟩ else if J (zs.getD a 0) = 0 then ⟨0, a + 1, zs.getD a 0⟩ else ⟨J (zs.getD a 0), a, 0⟩
/-- a number without a sign, of 32 bits, and not above some -/
def pU (zs : List Int) (a : Nat) (most : Int) : Part :=
  if Leb.tuE (zs.drop a) 32 = 0 then (if most < Leb.tuV (zs.drop a) 32 then ⟨9, a, 0⟩ else ⟨0, a + (Leb.tuN (zs.drop a) 32).toNat, Leb.tuV (zs.drop a) 32⟩) else ⟨Leb.tuE (zs.drop a) 32, a, 0⟩
/-- one with a sign -/
def pS (zs : List Int) (a : Nat) (bits : Int) : Part :=
  if Leb.tsE (zs.drop a) bits = 0 then ⟨0, a + (Leb.tsN (zs.drop a) bits).toNat, Leb.tsV (zs.drop a) bits⟩ else ⟨Leb.tsE (zs.drop a) bits, a, 0⟩
def jZ (c : Int) : Int := if c = 0 then 0 else 6
def jK (c : Int) : Int := if c = 64 ∨ c = 127 ∨ c = 126 then 0 else if c = 125 ∨ c = 124 then 8 else 6
def kV (c : Int) : Int := if c = 64 then 0 else c
/-- an instruction's number, or what stands in its place -/
def jO (k nest : Nat) (me : Bool) (c : Int) : Int :=
  if c = 11 ∨ (c = 5 ∧ me = true) then 0 else if flt c = true then 8 else
    match frm c with
    | none => 6
    | some f => if k = 16384 ∨ (blk f = true ∧ nest = 64) then 9 else 0
/-- so many labels -/
def pL (zs : List Int) : Nat → Nat → Nat → Out (List Int)
  | 0, a, k => ⟨0, a, k, []⟩
  | m + 1, a, k => (pU zs a 4294967295).on k [] fun a1 v => (pL zs m a1 k).on [] fun a2 k2 ls => ⟨0, a2, k2, v :: ls⟩

def plain (op : Int) : Ins := ⟨op, 0, 0, 0, 0, [], [], []⟩
/-- a block's body, and its else, behind its kind -/
def pK (rc : Nat → Nat → Nat → Bool → Out (List Ins × Int)) (a k nest : Nat) (op re : Int) : Out Ins :=
  (rc a k (nest + 1) (decide (fr op = 7))).on (plain op) fun a2 k2 x => if x.2 = 5 then (rc a2 k2 (nest + 1) false).on (plain op) fun a3 k3 y => ⟨0, a3, k3, { plain op with re := re, body := x.1, els := y.1 }⟩ else ⟨0, a2, k2, { plain op with re := re, body := x.1 }⟩
/-- what stands behind an instruction's number; 'rc': how lists are read -/
def pI (rc : Nat → Nat → Nat → Bool → Out (List Ins × Int)) (zs : List Int) (a k nest : Nat) (op : Int) : Out Ins :=
  if fr op = 1 then (pS zs a 32).on k (plain op) fun a1 v => ⟨0, a1, k, { plain op with n := v }⟩
  else if fr op = 2 then (pS zs a 64).on k (plain op) fun a1 v => ⟨0, a1, k, { plain op with n := v }⟩
  else if fr op = 3 then (pU zs a 4294967295).on k (plain op) fun a1 v => ⟨0, a1, k, { plain op with n := v }⟩
  else if fr op = 4 then (pU zs a 4294967295).on k (plain op) fun a1 v => (pU zs a1 4294967295).on k (plain op) fun a2 u => ⟨0, a2, k, { plain op with al := v, of := u }⟩
  else if fr op = 5 then (pB zs a jZ).on k (plain op) fun a1 _ => ⟨0, a1, k, plain op⟩
  else if fr op = 8 then (pU zs a 256).on k (plain op) fun a1 v => (pL zs (v.toNat + 1) a1 k).on (plain op) fun a2 k2 ls => ⟨0, a2, k2, { plain op with ls := ls }⟩
  else if fr op = 9 then (pU zs a 4294967295).on k (plain op) fun a1 v => (pB zs a1 jZ).on k (plain op) fun a2 _ => ⟨0, a2, k, { plain op with n := v }⟩
  else if fr op = 6 ∨ fr op = 7 then (pB zs a jK).on k (plain op) fun a1 c => pK rc a1 k nest op (kV c)
  else ⟨0, a, k, plain op⟩
/-- the list that begins here -/
def step (rc : Nat → Nat → Nat → Bool → Out (List Ins × Int)) (zs : List Int) (a k nest : Nat) (me : Bool) : Out (List Ins × Int) :=
  (pB zs a (jO k nest me)).on k ([], 0) fun a1 c => if c = 11 ∨ c = 5 then ⟨0, a1, k, ([], c)⟩ else
    (pI rc zs a1 (k + 1) nest c).on ([], 0) fun a2 k2 i => (rc a2 k2 nest me).on ([], 0) fun a3 k3 y => ⟨0, a3, k3, (i :: y.1, y.2)⟩
def dec : Nat → List Int → Nat → Nat → Nat → Bool → Out (List Ins × Int)
  | 0, _, a, k, _, _ => ⟨4, a, k, ([], 0)⟩
  | f + 1, zs, a, k, nest, me => step (dec f zs) zs a k nest me
def D (zs : List Int) (a k nest : Nat) (me : Bool) : Out (List Ins × Int) := dec (zs.length + 1) zs a k nest me

theorem pB_bd (zs : List Int) (a : Nat) (J : Int → Int) (h : a ≤ zs.length) : a ≤ (pB zs a J).at_ ∧ (pB zs a J).at_ ≤ zs.length ∧ ((pB zs a J).e = 0 → a < (pB zs a J).at_ ∧ (pB zs a J).v = zs.getD a 0 ∧ J (pB zs a J).v = 0) := by
  unfold pB
  by_cases h1 : zs.length ≤ a
  · rw [if_pos h1]; exact ⟨Nat.le_refl _, h, fun e => absurd e (show ¬ (4 : Int) = 0 by decide)⟩
  · rw [if_neg h1]
    by_cases h2 : J (zs.getD a 0) = 0
    · rw [if_pos h2]; exact ⟨by simp, by simp only; omega, fun _ => ⟨by simp, rfl, h2⟩⟩
    · rw [if_neg h2]; exact ⟨Nat.le_refl _, h, fun e => absurd e h2⟩
theorem tu_bd (qs : List Int) (n : Int) (h : Leb.tuE qs n = 0) : 1 ≤ (Leb.tuN qs n).toNat ∧ (Leb.tuN qs n).toNat ≤ qs.length ∧ Leb.tuN qs n = ((Leb.tuN qs n).toNat : Int) := by
  have hc : Leb.cntE qs n = 0 := by
    unfold Leb.tuE at h
    by_cases hh : Leb.cntE qs n = 0
    · exact hh
    · rw [if_neg hh] at h; exact h
  have h2 := Leb.cnt_0 qs n hc
  unfold Leb.tuN
  rw [if_pos h]
  omega
theorem ts_bd (qs : List Int) (n : Int) (h : Leb.tsE qs n = 0) : 1 ≤ (Leb.tsN qs n).toNat ∧ (Leb.tsN qs n).toNat ≤ qs.length ∧ Leb.tsN qs n = ((Leb.tsN qs n).toNat : Int) := by
  have hc : Leb.cntE qs n = 0 := by
    unfold Leb.tsE at h
    by_cases hh : Leb.cntE qs n = 0
    · exact hh
    · rw [if_neg hh] at h; exact h
  have h2 := Leb.cnt_0 qs n hc
  unfold Leb.tsN
  rw [if_pos h]
  omega
theorem pU_bd (zs : List Int) (a : Nat) (m : Int) (h : a ≤ zs.length) : a ≤ (pU zs a m).at_ ∧ (pU zs a m).at_ ≤ zs.length ∧ ((pU zs a m).e = 0 → a < (pU zs a m).at_ ∧ (pU zs a m).v ≤ m) := by
  unfold pU
  by_cases h1 : Leb.tuE (zs.drop a) 32 = 0
  · rw [if_pos h1]
    have := tu_bd _ _ h1
    rw [List.length_drop] at this
    by_cases h2 : m < Leb.tuV (zs.drop a) 32
    · rw [if_pos h2]; exact ⟨Nat.le_refl _, h, fun e => absurd e (show ¬ (9 : Int) = 0 by decide)⟩
    · rw [if_neg h2]; exact ⟨by simp, by simp only; omega, fun _ => ⟨by simp only; omega, by simp only; omega⟩⟩
  · rw [if_neg h1]; exact ⟨Nat.le_refl _, h, fun e => absurd e h1⟩
theorem pS_bd (zs : List Int) (a : Nat) (m : Int) (h : a ≤ zs.length) : a ≤ (pS zs a m).at_ ∧ (pS zs a m).at_ ≤ zs.length ∧ ((pS zs a m).e = 0 → a < (pS zs a m).at_) := by
  unfold pS
  by_cases h1 : Leb.tsE (zs.drop a) m = 0
  · rw [if_pos h1]
    have := ts_bd _ _ h1
    rw [List.length_drop] at this
    exact ⟨by simp, by simp only; omega, fun _ => by simp only; omega⟩
  · rw [if_neg h1]; exact ⟨Nat.le_refl _, h, fun e => absurd e h1⟩
/-- it goes on, and not beyond the end -/
def Fwd {α : Type} (zs : List Int) (a : Nat) (x : Out α) : Prop := a ≤ x.at_ ∧ x.at_ ≤ zs.length
theorem Fwd.part {β : Type} {zs : List Int} {a : Nat} {p : Part} (h : a ≤ p.at_) (h2 : p.at_ ≤ zs.length) (k : Nat) (d : β) {f : Nat → Int → Out β} (hf : p.e = 0 → Fwd zs p.at_ (f p.at_ p.v)) : Fwd zs a (p.on k d f) := by
  by_cases he : p.e = 0
  · rw [Part.on_ok he]; have := hf he; unfold Fwd at *; omega
  · rw [Part.on_no he]; exact ⟨h, h2⟩
theorem Fwd.out {α β : Type} {zs : List Int} {a : Nat} {x : Out α} (h : Fwd zs a x) (d : β) {f : Nat → Nat → α → Out β} (hf : x.e = 0 → Fwd zs x.at_ (f x.at_ x.k x.v)) : Fwd zs a (x.on d f) := by
  by_cases he : x.e = 0
  · rw [Out.on_ok he]; have := hf he; unfold Fwd at *; omega
  · rw [Out.on_no he]; exact h
theorem pL_bd (zs : List Int) : ∀ (m a k : Nat), a ≤ zs.length → Fwd zs a (pL zs m a k)
  | 0, a, k, h => by rw [pL]; exact ⟨Nat.le_refl _, h⟩
  | m + 1, a, k, h => by
    rw [pL]
    have h1 := pU_bd zs a 4294967295 h
    refine Fwd.part h1.1 h1.2.1 _ _ fun _ => Fwd.out (pL_bd zs m _ k h1.2.1) _ fun _ => ⟨Nat.le_refl _, (pL_bd zs m _ k h1.2.1).2⟩
theorem pK_bd (zs : List Int) (rc : Nat → Nat → Nat → Bool → Out (List Ins × Int)) (hrc : ∀ a k n m, a ≤ zs.length → Fwd zs a (rc a k n m)) (a k nest : Nat) (op re : Int) (h : a ≤ zs.length) : Fwd zs a (pK rc a k nest op re) := by
  unfold pK
  refine Fwd.out (hrc _ _ _ _ h) _ fun _ => ?_
  have h2 := (hrc a k (nest + 1) (decide (fr op = 7)) h).2
  split
  · exact Fwd.out (hrc _ _ _ _ h2) _ fun _ => ⟨Nat.le_refl _, (hrc _ _ _ _ h2).2⟩
  · exact ⟨Nat.le_refl _, h2⟩
theorem pI_bd (zs : List Int) (rc : Nat → Nat → Nat → Bool → Out (List Ins × Int)) (hrc : ∀ a k n m, a ≤ zs.length → Fwd zs a (rc a k n m)) (a k nest : Nat) (op : Int) (h : a ≤ zs.length) : Fwd zs a (pI rc zs a k nest op) := by
  have u := pU_bd zs a 4294967295 h
  have u2 := pU_bd zs a 256 h
  have s32 := pS_bd zs a 32 h
  have s64 := pS_bd zs a 64 h
  have b0 := pB_bd zs a jZ h
  have bk := pB_bd zs a jK h
  unfold pI
  by_cases f1 : fr op = 1
  · rw [if_pos f1]; exact Fwd.part s32.1 s32.2.1 _ _ fun _ => ⟨Nat.le_refl _, s32.2.1⟩
  rw [if_neg f1]
  by_cases f2 : fr op = 2
  · rw [if_pos f2]; exact Fwd.part s64.1 s64.2.1 _ _ fun _ => ⟨Nat.le_refl _, s64.2.1⟩
  rw [if_neg f2]
  by_cases f3 : fr op = 3
  · rw [if_pos f3]; exact Fwd.part u.1 u.2.1 _ _ fun _ => ⟨Nat.le_refl _, u.2.1⟩
  rw [if_neg f3]
  by_cases f4 : fr op = 4
  · rw [if_pos f4]
    refine Fwd.part u.1 u.2.1 _ _ fun _ => ?_
    have v := pU_bd zs _ 4294967295 u.2.1
    exact Fwd.part v.1 v.2.1 _ _ fun _ => ⟨Nat.le_refl _, v.2.1⟩
  rw [if_neg f4]
  by_cases f5 : fr op = 5
  · rw [if_pos f5]; exact Fwd.part b0.1 b0.2.1 _ _ fun _ => ⟨Nat.le_refl _, b0.2.1⟩
  rw [if_neg f5]
  by_cases f8 : fr op = 8
  · rw [if_pos f8]
    exact Fwd.part u2.1 u2.2.1 _ _ fun _ => Fwd.out (pL_bd zs _ _ k u2.2.1) _ fun _ => ⟨Nat.le_refl _, (pL_bd zs _ _ k u2.2.1).2⟩
  rw [if_neg f8]
  by_cases f9 : fr op = 9
  · rw [if_pos f9]
    refine Fwd.part u.1 u.2.1 _ _ fun _ => ?_
    have v := pB_bd zs _ jZ u.2.1
    exact Fwd.part v.1 v.2.1 _ _ fun _ => ⟨Nat.le_refl _, v.2.1⟩
  rw [if_neg f9]
  by_cases f6 : fr op = 6 ∨ fr op = 7
  · rw [if_pos f6]
    exact Fwd.part bk.1 bk.2.1 _ _ fun _ => pK_bd zs rc hrc _ _ _ _ _ bk.2.1
  rw [if_neg f6]
  exact ⟨Nat.le_refl _, h⟩
theorem step_bd (zs : List Int) (rc : Nat → Nat → Nat → Bool → Out (List Ins × Int)) (hrc : ∀ a k n m, a ≤ zs.length → Fwd zs a (rc a k n m)) (a k nest : Nat) (me : Bool) (h : a ≤ zs.length) : Fwd zs a (step rc zs a k nest me) := by
  unfold step
  have b := pB_bd zs a (jO k nest me) h
  refine Fwd.part b.1 b.2.1 _ _ fun _ => ?_
  split
  · exact ⟨Nat.le_refl _, b.2.1⟩
  · have hi := pI_bd zs rc hrc _ (k + 1) nest (pB zs a (jO k nest me)).v b.2.1
    exact Fwd.out hi _ fun _ => Fwd.out (hrc _ _ _ _ hi.2) _ fun _ => ⟨Nat.le_refl _, (hrc _ _ _ _ hi.2).2⟩
theorem dec_bd (zs : List Int) : ∀ (f a k nest : Nat) (me : Bool), a ≤ zs.length → Fwd zs a (dec f zs a k nest me)
  | 0, a, k, nest, me, h => by rw [dec]; exact ⟨Nat.le_refl _, h⟩
  | f + 1, a, k, nest, me, h => by rw [dec]; exact step_bd zs _ (dec_bd zs f) a k nest me h
/-- two ways to read lists that are the same further on -/
theorem pI_congr (zs : List Int) (r1 r2 : Nat → Nat → Nat → Bool → Out (List Ins × Int)) (hrc : ∀ a k n m, a ≤ zs.length → Fwd zs a (r1 a k n m)) (a k nest : Nat) (op : Int) (h : a ≤ zs.length) (he : ∀ a' k n m, a ≤ a' → a' ≤ zs.length → r1 a' k n m = r2 a' k n m) :
    pI r1 zs a k nest op = pI r2 zs a k nest op := by
  unfold pI
  split; rfl; split; rfl; split; rfl; split; rfl; split; rfl; split; rfl; split; rfl; split
  · have bk := pB_bd zs a jK h
    by_cases e : (pB zs a jK).e = 0
    · rw [Part.on_ok e, Part.on_ok e]
      unfold pK
      rw [← he _ _ _ _ bk.1 bk.2.1]
      have f1 := hrc (pB zs a jK).at_ k (nest + 1) (decide (fr op = 7)) bk.2.1
      generalize r1 (pB zs a jK).at_ k (nest + 1) (decide (fr op = 7)) = R at *
      by_cases eR : R.e = 0
      · rw [Out.on_ok eR, Out.on_ok eR]
        dsimp only
        rw [← he R.at_ _ _ _ (by have := f1.1; have := bk.1; omega) f1.2]
      · rw [Out.on_no eR, Out.on_no eR]
    · rw [Part.on_no e, Part.on_no e]
  · rfl
theorem step_congr (zs : List Int) (r1 r2 : Nat → Nat → Nat → Bool → Out (List Ins × Int)) (hrc : ∀ a k n m, a ≤ zs.length → Fwd zs a (r1 a k n m)) (a k nest : Nat) (me : Bool) (h : a ≤ zs.length) (he : ∀ a' k n m, a < a' → a' ≤ zs.length → r1 a' k n m = r2 a' k n m) :
    step r1 zs a k nest me = step r2 zs a k nest me := by
  unfold step
  have b := pB_bd zs a (jO k nest me) h
  by_cases e : (pB zs a (jO k nest me)).e = 0
  · rw [Part.on_ok e, Part.on_ok e]
    have hb := (b.2.2 e).1
    split
    · rfl
    · rw [← pI_congr zs r1 r2 hrc _ _ _ _ b.2.1 fun a' k n m h1 h2 => he a' k n m (by omega) h2]
      have hi := pI_bd zs r1 hrc _ (k + 1) nest (pB zs a (jO k nest me)).v b.2.1
      generalize pI r1 zs (pB zs a (jO k nest me)).at_ (k + 1) nest (pB zs a (jO k nest me)).v = R at *
      by_cases eR : R.e = 0
      · rw [Out.on_ok eR, Out.on_ok eR]
        rw [← he R.at_ _ _ _ (by have := hi.1; omega) hi.2]
      · rw [Out.on_no eR, Out.on_no eR]
  · rw [Part.on_no e, Part.on_no e]
theorem dec_fuel (zs : List Int) : ∀ (f g a k nest : Nat) (me : Bool), a ≤ zs.length → zs.length - a < f → zs.length - a < g → dec f zs a k nest me = dec g zs a k nest me
  | 0, g, a, k, nest, me, h, h1, h2 => by omega
  | f + 1, 0, a, k, nest, me, h, h1, h2 => by omega
  | f + 1, g + 1, a, k, nest, me, h, h1, h2 => by
    rw [dec, dec]
    exact step_congr zs _ _ (dec_bd zs f) a k nest me h fun a' k n m h3 h4 => dec_fuel zs f g a' k n m h4 (by omega) (by omega)
theorem D_bd (zs : List Int) (a k nest : Nat) (me : Bool) (h : a ≤ zs.length) : Fwd zs a (D zs a k nest me) := dec_bd zs _ a k nest me h
theorem D_eq (zs : List Int) (a k nest : Nat) (me : Bool) (h : a ≤ zs.length) : D zs a k nest me = step (D zs) zs a k nest me := by
  unfold D
  rw [dec]
  exact step_congr zs _ _ (dec_bd zs _) a k nest me h fun a' k n m h3 h4 => dec_fuel zs _ _ a' k n m h4 (by omega) (by omega)
end Ex
end Go.Proofs.YtjhmglefejclpaaDoor

/- The reader in memory; what its judges say. -/
namespace Go.Proofs.YtjhmglefejclpaaDoor
open Go.RowKit
namespace Ex
set_option linter.unusedVariables false

theorem errV_pos {k : Int} (h : ¬ k = 0) : errV k = .iface 64 (.int .i64 k) := by simp [errV, h]
theorem errV_8 : errV 8 = .iface 64 (.int .i64 8) := by simp [errV]
theorem errV_9 : errV 9 = .iface 64 (.int .i64 9) := by simp [errV]

/-- the reader's box at N, over bytes zs -/
structure Rd (w : World) (N : Nat) (a : Option Addr) (len cap : Nat) (zs : List Int) (p k : Nat) (e : Int) : Prop where
  box : w.heap[N]? = some (.cells #[.slice a len cap, .int .i64 p, .int .i64 k, errV e] 76 (0, 0))
  row : Row w a len zs
  ne : ∀ b o, a = some ⟨b, o, none⟩ → 0 < len → b ≠ N
  nil : a = none → cap = 0
  cap : len ≤ cap
  at_ : p ≤ len
  len : len ≤ 1099511627776
  k : k ≤ 16384
/-- only block N has turned, and new ones are there -/
abbrev Tn (N : Nat) (w w' : World) : Prop := w.grownBy w' (some N)
theorem Tn.on {N : Nat} {w w1 w2 : World} (h : Tn N w w1) (h2 : Tn N w1 w2) : Tn N w w2 :=
  ⟨h2.os.trans h.os, h2.tape.trans h.tape, h2.output.trans h.output, Nat.le_trans h.size h2.size, fun k hk hne => (h2.block k (Nat.lt_of_lt_of_le hk h.size) hne).trans (h.block k hk hne)⟩
theorem Tn.of {N : Nat} {w w1 : World} (h : Below w.heap.size w w1) : Tn N w w1 := ⟨h.os, h.tape, h.output, h.size, fun k hk _ => h.block k hk⟩
theorem Tn.refl (N : Nat) (w : World) : Tn N w w := Tn.of (Below.refl _ _)
theorem Tn.drewN (N : Nat) (w : World) (k : Nat) : Tn N w (w.drewN k) := Tn.of ⟨rfl, rfl, rfl, Nat.le_refl _, fun _ _ => rfl⟩
theorem Tn.set (N i : Nat) (w : World) (v : Value) : Tn N w (w.setCell ⟨N, i, none⟩ v) := by
  have h : Below N w (w.setCell ⟨N, i, none⟩ v) := (Below.refl _ _).setCell (p := ⟨N, i, none⟩) (Nat.le_refl _) _
  refine ⟨h.os, h.tape, h.output, h.size, fun k hk hne => ?_⟩
  exact heap_setCell_other w ⟨N, i, none⟩ k v (by rintro rfl; exact hne rfl)
theorem row_turn {N : Nat} {w w' : World} {a : Option Addr} {len : Nat} {zs : List Int} (h : Row w a len zs) (hne : ∀ b o, a = some ⟨b, o, none⟩ → 0 < len → b ≠ N) (ht : Tn N w w') : Row w' a len zs := by
  refine ⟨h.1, h.2.1, fun hl => ?_⟩
  obtain ⟨b, off, rfl, hlt, hc⟩ := h.2.2 hl
  have hb := ht.block b hlt (fun e => hne b off rfl hl (Option.some.inj e))
  exact ⟨b, off, rfl, Nat.lt_of_lt_of_le hlt ht.size, fun i hi => (World.cell?_of_block (a := ⟨b, off + i, none⟩) hb).trans (hc i hi)⟩
namespace Rd
variable {w : World} {N : Nat} {a : Option Addr} {len cap : Nat} {zs : List Int} {p k : Nat} {e : Int}
theorem lt (h : Rd w N a len cap zs p k e) : N < w.heap.size := (Array.getElem?_eq_some_iff.1 h.box).1
theorem c0 (h : Rd w N a len cap zs p k e) : w.cell? ⟨N, 0, none⟩ = some (.slice a len cap) := by rw [cell_of_row w N 0 _ _ _ h.box]; rfl
theorem c1 (h : Rd w N a len cap zs p k e) : w.cell? ⟨N, 1, none⟩ = some (.int .i64 p) := by rw [cell_of_row w N 1 _ _ _ h.box]; rfl
theorem c2 (h : Rd w N a len cap zs p k e) : w.cell? ⟨N, 2, none⟩ = some (.int .i64 k) := by rw [cell_of_row w N 2 _ _ _ h.box]; rfl
theorem c3 (h : Rd w N a len cap zs p k e) : w.cell? ⟨N, 3, none⟩ = some (errV e) := by rw [cell_of_row w N 3 _ _ _ h.box]; rfl
theorem fz (h : Rd w N a len cap zs p k e) (i : Nat) : w.frozen? ⟨N, i, none⟩ = false := by simp [World.frozen?, h.box]
theorem below (h : Rd w N a len cap zs p k e) {w' : World} (hb : Below w.heap.size w w') : Rd w' N a len cap zs p k e :=
  ⟨(hb.block N h.lt).trans h.box, h.row.below (Nat.le_refl _) hb, h.ne, h.nil, h.cap, h.at_, h.len, h.k⟩
theorem zlen (h : Rd w N a len cap zs p k e) : zs.length = len := h.row.1
theorem set_err (h : Rd w N a len cap zs p k e) (e' : Int) : Rd (w.setCell ⟨N, 3, none⟩ (errV e')) N a len cap zs p k e' :=
  ⟨(heap_setCell_same w N 3 _ _ (errV e') h.box).trans rfl, row_turn h.row h.ne (Tn.set N 3 w _), h.ne, h.nil, h.cap, h.at_, h.len, h.k⟩
theorem set_at (h : Rd w N a len cap zs p k e) (p' : Nat) (hp : p' ≤ len) : Rd (w.setCell ⟨N, 1, none⟩ (.int .i64 p')) N a len cap zs p' k e :=
  ⟨(heap_setCell_same w N 1 _ _ (.int .i64 p') h.box).trans rfl, row_turn h.row h.ne (Tn.set N 1 w _), h.ne, h.nil, h.cap, hp, h.len, h.k⟩
theorem set_k (h : Rd w N a len cap zs p k e) (k' : Nat) (hp : k' ≤ 16384) : Rd (w.setCell ⟨N, 2, none⟩ (.int .i64 k')) N a len cap zs p k' e :=
  ⟨(heap_setCell_same w N 2 _ _ (.int .i64 k') h.box).trans rfl, row_turn h.row h.ne (Tn.set N 2 w _), h.ne, h.nil, h.cap, h.at_, h.len, hp⟩
theorem byte (h : Rd w N a len cap zs p k e) (hl : p < len) : ∃ b o, a = some ⟨b, o, none⟩ ∧ w.cell? ⟨b, o + p, none⟩ = some (.int .u8 (zs.getD p 0)) ∧ 0 ≤ zs.getD p 0 ∧ zs.getD p 0 ≤ 255 := by
  obtain ⟨b, off, rfl, hlt, hc⟩ := h.row.2.2 (by omega)
  have hz := h.row.2.1 (zs.getD p 0) (by
    have : p < zs.length := by rw [h.row.1]; exact hl
    rw [List.getD, List.getElem?_eq_getElem this]
    exact List.getElem_mem this)
  exact ⟨b, off, rfl, hc p hl, hz⟩
end Rd

theorem ib_any (f : Int) (w : World) : Calls Tryd.prog 62 #[.int .i64 f] w fun e w' => e = .returned (.bool (blk f)) ∧ w = w' := by
  by_cases h6 : f = 6
  · subst h6
    go_enter Tryd.func62, Tryd.ntmps62
    go_wp2
    go_ret
    exact ⟨rfl, rfl⟩
  by_cases h7 : f = 7
  · subst h7
    go_enter Tryd.func62, Tryd.ntmps62
    go_wp2
    go_ret
    exact ⟨rfl, rfl⟩
  have t6 : (f == 6) = false := by simpa using h6
  have t7 : (f == 7) = false := by simpa using h7
  have hb : blk f = false := by simp [blk, h6, h7]
  have HB := hide hb; clear hb h6 h7
  go_enter Tryd.func62, Tryd.ntmps62
  go_wp2
  go_ret
  exact ⟨ret_bool (unhide HB).symm, rfl⟩

theorem jz_any (c : Int) (w : World) : Calls Tryd.prog 67 #[.int .u8 c] w fun e w' => e = .returned (errV (jZ c)) ∧ Below w.heap.size w w' := by
  by_cases h : c = 0
  · subst h
    rw [show jZ 0 = 0 from rfl, errV_0]
    go_enter Tryd.func67, Tryd.ntmps67
    go_wp2
    go_ret
    exact ⟨rfl, Below.refl _ _⟩
  · have t : (c != 0) = true := by simpa using h
    rw [show jZ c = 6 by simp [jZ, h], errV_6]
    clear h
    go_enter Tryd.func67, Tryd.ntmps67
    go_wp2
    go_ret
    exact ⟨rfl, Below.refl _ _⟩

theorem jk_any (c : Int) (w : World) : Calls Tryd.prog 82 #[.int .u8 c] w fun e w' => e = .returned (errV (jK c)) ∧ Below w.heap.size w w' := by
  by_cases h1 : c = 64
  · subst h1
    rw [show jK 64 = 0 from rfl, errV_0]
    go_enter Tryd.func82, Tryd.ntmps82
    go_wp2
    go_ret
    exact ⟨rfl, Below.refl _ _⟩
  by_cases h2 : c = 127
  · subst h2
    rw [show jK 127 = 0 from rfl, errV_0]
    go_enter Tryd.func82, Tryd.ntmps82
    go_wp2
    go_ret
    exact ⟨rfl, Below.refl _ _⟩
  by_cases h3 : c = 126
  · subst h3
    rw [show jK 126 = 0 from rfl, errV_0]
    go_enter Tryd.func82, Tryd.ntmps82
    go_wp2
    go_ret
    exact ⟨rfl, Below.refl _ _⟩
  by_cases h4 : c = 125
  · subst h4
    rw [show jK 125 = 8 from rfl, errV_8]
    go_enter Tryd.func82, Tryd.ntmps82
    go_wp2
    go_ret
    exact ⟨rfl, Below.refl _ _⟩
  by_cases h5 : c = 124
  · subst h5
    rw [show jK 124 = 8 from rfl, errV_8]
    go_enter Tryd.func82, Tryd.ntmps82
    go_wp2
    go_ret
    exact ⟨rfl, Below.refl _ _⟩
  have t1 : (c == 64) = false := by simpa using h1
  have t2 : (c == 127) = false := by simpa using h2
  have t3 : (c == 126) = false := by simpa using h3
  have t4 : (c == 125) = false := by simpa using h4
  have t5 : (c == 124) = false := by simpa using h5
  rw [show jK c = 6 by simp [jK, h1, h2, h3, h4, h5], errV_6]
  clear h1 h2 h3 h4 h5
  go_enter Tryd.func82, Tryd.ntmps82
  go_wp2
  go_ret
  exact ⟨rfl, Below.refl _ _⟩

theorem flt5 : flt ((5 : Nat) : Int) = false ∧ fam ((5 : Nat) : Int) = none := by decide
theorem jO_gen {k nest : Nat} {me : Bool} {c : Int} (h : ¬ (c = 11 ∨ (c = 5 ∧ me = true))) : jO k nest me c = if flt c = true then 8 else match frm c with | none => 6 | some f => if k = 16384 ∨ (blk f = true ∧ nest = 64) then 9 else 0 := by
  unfold jO; rw [if_neg h]; try (cases frm c <;> rfl)
set_option maxRecDepth 100000 in
set_option maxHeartbeats 1600000 in
theorem jo_any (N : Nat) (c k nest : Nat) (me : Bool) (w : World) (hT : Tb w) (hc : c < 256) (hk : w.cell? ⟨N, 2, none⟩ = some (.int .i64 k)) (hk2 : k ≤ 16384) (hn : nest ≤ 64) :
    Calls Tryd.prog 48 #[.pointer (some ⟨N, 0, none⟩), .int .u8 c, .int .i64 nest, .bool me] w fun e w' => e = .returned (errV (jO k nest me c)) ∧ Below w.heap.size w w' := by
  have hlt : N < w.heap.size := World.block_lt_of_cell? w _ hk
  by_cases h11 : c = 11
  · subst h11
    rw [show jO k nest me ((11 : Nat) : Int) = 0 by simp [jO], errV_0]
    go_enter Tryd.func48, Tryd.ntmps48
    go_wp2
    go_ret
    exact ⟨rfl, Below.refl _ _⟩
  have hF := float_any c hc w hT.2
  have hFm := fun wx hx => form_any c hc wx hx
  have hT1 := hT.1
  have HT := hide hT1
  clear hT1 hT
  by_cases h5 : c = 5
  · subst h5
    cases me with
    | true =>
      rw [show jO k nest true ((5 : Nat) : Int) = 0 by simp [jO], errV_0]
      clear hF hFm h11
      go_enter Tryd.func48, Tryd.ntmps48
      go_wp2
      go_ret
      exact ⟨rfl, Below.refl _ _⟩
    | false =>
      have hJ : jO k nest false ((5 : Nat) : Int) = 6 := by rw [jO_gen (by simp), flt5.1]; simp [frm, show fam 5 = none from flt5.2]
      rw [hJ, errV_6]
      rw [flt5.1] at hF
      simp only [flt5.2, formR, errV_1] at hFm
      have HF := hide hF; have HFm := hide hFm; clear hF hFm hJ h11
      go_enter Tryd.func48, Tryd.ntmps48
      go_wp2_with fail
      refine (unhide HF).mono ?_
      rintro e w1 ⟨rfl, hb1⟩
      have hT1 := (unhide HT).below hb1
      have HB1 := hide hb1; clear hb1
      go_wp2_with fail
      refine (unhide HFm _ hT1).mono ?_
      rintro e w2 ⟨rfl, hb2⟩
      have hb3 := Below.on (unhide HB1) hb2
      have hk3 := (hb3.cell (p := ⟨N, 2, none⟩) hlt).trans hk
      have HB2 := hide hb3; clear hb2 hT1 hb3
      go_wp2
      go_ret
      exact ⟨rfl, unhide HB2⟩

  have t11 : ((c : Int) == 11) = false := by simp; omega
  have t5 : ((c : Int) == 5) = false := by simp; omega
  rw [jO_gen (by omega)]
  clear h5 h11
  cases hfl : flt c with
  | true =>
    rw [hfl] at hF
    simp only [if_true, errV_8]
    have HF := hide hF; clear hF hFm hfl
    go_enter Tryd.func48, Tryd.ntmps48
    go_wp2_with fail
    refine (unhide HF).mono ?_
    rintro e w1 ⟨rfl, hb1⟩
    have HB1 := hide hb1; clear hb1
    go_wp2
    go_ret
    exact ⟨rfl, unhide HB1⟩
  | false =>
    rw [hfl] at hF
    have HF := hide hF; clear hF
    cases hfm : fam (c : Int) with
    | none =>
      simp only [hfm, formR, errV_1] at hFm
      have hfr : frm c = none := by unfold frm; rw [hfm]; rfl
      simp only [hfr, Bool.false_eq_true, if_false, errV_6]
      have HFm := hide hFm; clear hFm hfm hfr hfl
      go_enter Tryd.func48, Tryd.ntmps48
      go_wp2_with fail
      refine (unhide HF).mono ?_
      rintro e w1 ⟨rfl, hb1⟩
      have hT1 := (unhide HT).below hb1
      have HB1 := hide hb1; clear hb1
      go_wp2_with fail
      refine (unhide HFm _ hT1).mono ?_
      rintro e w2 ⟨rfl, hb2⟩
      have hb3 := Below.on (unhide HB1) hb2
      have hk3 := (hb3.cell (p := ⟨N, 2, none⟩) hlt).trans hk
      have HB2 := hide hb3; clear hb2 hT1 hb3
      go_wp2
      go_ret
      exact ⟨rfl, unhide HB2⟩
    | some x =>
      obtain ⟨x1, x2, o, x4, x5, x6⟩ := x
      simp only [hfm, formR, errV_0] at hFm
      have hfr : frm c = some o := by unfold frm; rw [hfm]; rfl
      simp only [hfr, Bool.false_eq_true, if_false]
      have HFm := hide hFm; clear hFm hfm hfr hfl
      by_cases k1 : k = 16384
      · subst k1
        simp only [true_or, if_true, errV_9]
        go_enter Tryd.func48, Tryd.ntmps48
        go_wp2_with fail
        refine (unhide HF).mono ?_
        rintro e w1 ⟨rfl, hb1⟩
        have hT1 := (unhide HT).below hb1
        have HB1 := hide hb1; clear hb1
        go_wp2_with fail
        refine (unhide HFm _ hT1).mono ?_
        rintro e w2 ⟨rfl, hb2⟩
        have hb3 := Below.on (unhide HB1) hb2
        have hk3 := (hb3.cell (p := ⟨N, 2, none⟩) hlt).trans hk
        have HB2 := hide hb3; clear hb2 hT1 hb3
        go_wp2
        go_ret
        exact ⟨rfl, unhide HB2⟩
      have tk : ((k : Int) == 16384) = false := by simp; omega
      have hib := fun wx => ib_any o wx
      cases hbl : blk o with
      | false =>
        rw [hbl] at hib
        rw [if_neg (by simp [k1]), errV_0]
        have HIB := hide hib; clear hib k1 hbl
        go_enter Tryd.func48, Tryd.ntmps48
        go_wp2_with fail
        refine (unhide HF).mono ?_
        rintro e w1 ⟨rfl, hb1⟩
        have hT1 := (unhide HT).below hb1
        have HB1 := hide hb1; clear hb1
        go_wp2_with fail
        refine (unhide HFm _ hT1).mono ?_
        rintro e w2 ⟨rfl, hb2⟩
        have hb3 := Below.on (unhide HB1) hb2
        have hk3 := (hb3.cell (p := ⟨N, 2, none⟩) hlt).trans hk
        have HB2 := hide hb3; clear hb2 hT1 hb3
        go_wp2_with fail
        refine (unhide HIB _).mono ?_
        rintro e w3 ⟨rfl, rfl⟩
        go_wp2
        go_ret
        exact ⟨rfl, unhide HB2⟩
      | true =>
        rw [hbl] at hib
        have HIB := hide hib; clear hib hbl
        by_cases e : nest = 64
        · subst e
          rw [if_pos (by simp), errV_9]
          clear k1
          go_enter Tryd.func48, Tryd.ntmps48
          go_wp2_with fail
          refine (unhide HF).mono ?_
          rintro e w1 ⟨rfl, hb1⟩
          have hT1 := (unhide HT).below hb1
          have HB1 := hide hb1; clear hb1
          go_wp2_with fail
          refine (unhide HFm _ hT1).mono ?_
          rintro e w2 ⟨rfl, hb2⟩
          have hb3 := Below.on (unhide HB1) hb2
          have hk3 := (hb3.cell (p := ⟨N, 2, none⟩) hlt).trans hk
          have HB2 := hide hb3; clear hb2 hT1 hb3
          go_wp2_with fail
          refine (unhide HIB _).mono ?_
          rintro e w3 ⟨rfl, rfl⟩
          go_wp2
          go_ret
          exact ⟨rfl, unhide HB2⟩
        · rw [if_neg (by simp [k1, e]), errV_0]
          have tn : ((nest : Int) == 64) = false := by simp; omega
          clear k1 e
          go_enter Tryd.func48, Tryd.ntmps48
          go_wp2_with fail
          refine (unhide HF).mono ?_
          rintro e w1 ⟨rfl, hb1⟩
          have hT1 := (unhide HT).below hb1
          have HB1 := hide hb1; clear hb1
          go_wp2_with fail
          refine (unhide HFm _ hT1).mono ?_
          rintro e w2 ⟨rfl, hb2⟩
          have hb3 := Below.on (unhide HB1) hb2
          have hk3 := (hb3.cell (p := ⟨N, 2, none⟩) hlt).trans hk
          have HB2 := hide hb3; clear hb2 hT1 hb3
          go_wp2_with fail
          refine (unhide HIB _).mono ?_
          rintro e w3 ⟨rfl, rfl⟩
          go_wp2
          go_ret
          exact ⟨rfl, unhide HB2⟩
end Ex
end Go.Proofs.YtjhmglefejclpaaDoor

/- The reader's oneByte, at each of its judges. -/
namespace Go.Proofs.YtjhmglefejclpaaDoor
open Go.RowKit
namespace Ex
set_option linter.unusedVariables false

theorem ret_u8 {a b : Int} (h : a = b) : Ending.returned (.int .u8 a) = .returned (.int .u8 b) := by rw [h]
set_option maxRecDepth 100000 in
set_option maxHeartbeats 800000 in
theorem l1_any (N b0 b1 b2 c k nest : Nat) (me : Bool) (w : World) (hT : Tb w) (hc : c < 256) (hk : w.cell? ⟨N, 2, none⟩ = some (.int .i64 k)) (hk2 : k ≤ 16384) (hn : nest ≤ 64)
    (h0 : w.cell? ⟨b0, 0, none⟩ = some (.pointer (some ⟨N, 0, none⟩))) (h1 : w.cell? ⟨b1, 0, none⟩ = some (.int .i64 nest)) (h2 : w.cell? ⟨b2, 0, none⟩ = some (.bool me)) :
    Calls Tryd.prog 47 #[.int .u8 c, .pointer (some ⟨b0, 0, none⟩), .pointer (some ⟨b1, 0, none⟩), .pointer (some ⟨b2, 0, none⟩)] w fun e w' => e = .returned (errV (jO k nest me c)) ∧ Below w.heap.size w w' := by
  have hj := jo_any N c k nest me w hT hc hk hk2 hn
  generalize errV (jO k nest me c) = r at *
  have HJ := hide hj; clear hj hT
  go_enter Tryd.func47, Tryd.ntmps47
  go_wp2_with fail
  refine (unhide HJ).mono ?_
  rintro e w1 ⟨rfl, hb⟩
  have HB := hide hb; clear hb
  go_wp2
  go_ret
  exact ⟨rfl, unhide HB⟩

/-- something was wrong already -/
theorem obZ_err {N len cap p k : Nat} {a : Option Addr} {zs : List Int} {er : Int} {w : World} (h : Rd w N a len cap zs p k er) (he : ¬ er = 0) :
    Calls Tryd.prog 46 #[.pointer (some ⟨N, 0, none⟩), .func (.func 67) #[] #[]] w fun e w' => e = .returned (.int .u8 0) ∧ Rd w' N a len cap zs p k er ∧ Tn N w w' := by
  have c3 := h.c3
  rw [errV_pos he] at c3
  have HR := hide h; clear h he
  go_enter Tryd.func46, Tryd.ntmps46
  go_wp2_with fail
  go_quiet (fail)
  go_wp2
  go_ret
  exact ⟨rfl, (unhide HR).below (Below.drewn _ _), Tn.drewN _ _ _⟩
set_option maxRecDepth 100000 in
set_option maxHeartbeats 1600000 in
theorem obZ_any {N len cap p k : Nat} {a : Option Addr} {zs : List Int} {w : World} (h : Rd w N a len cap zs p k 0) :
    Calls Tryd.prog 46 #[.pointer (some ⟨N, 0, none⟩), .func (.func 67) #[] #[]] w fun e w' => e = .returned (.int .u8 (pB zs p jZ).v) ∧ Rd w' N a len cap zs (pB zs p jZ).at_ k (pB zs p jZ).e ∧ Tn N w w' := by
  have c3 := h.c3
  rw [errV_0] at c3
  have c0 := h.c0; have c1 := h.c1; have fz := h.fz 3; have fz1 := h.fz 1; have hln := h.lt
  have hzl := h.zlen
  have hl := h.len
  have hat := h.at_
  by_cases hp : p < len
  · obtain ⟨b, o, rfl, hb, v0, v1⟩ := h.byte hp
    have hpB : pB zs p jZ = if jZ (zs.getD p 0) = 0 then ⟨0, p + 1, zs.getD p 0⟩ else ⟨jZ (zs.getD p 0), p, 0⟩ := by unfold pB; rw [if_neg (by omega)]
    obtain ⟨c, hc⟩ : ∃ c : Nat, zs.getD p 0 = (c : Int) := ⟨(zs.getD p 0).toNat, by omega⟩
    rw [hc] at hb hpB v1
    have hJ : ∀ m, Calls Tryd.prog 67 #[.int .u8 c] (w.drewN m) fun e w' => e = .returned (errV (jZ c)) ∧ Below w.heap.size w w' := fun m => (jz_any c _).mono fun e w' q => ⟨q.1, Below.on (Below.drewn w m) q.2⟩
    have hlt : (p : Int) < len := by omega
    have hne : ((p : Int) == (len : Int)) = false := by simp; omega
    by_cases hz : jZ (c : Int) = 0
    · rw [hz, errV_0] at hJ
      rw [if_pos hz] at hpB
      rw [hpB]
      have HJ := hide hJ; have HR := hide h; clear hJ h hpB hc hz
      go_enter Tryd.func46, Tryd.ntmps46
      go_wp2_with fail
      go_quiet (fail)
      go_wp2_with fail
      go_quiet (fail)
      go_wp2_with fail
      refine (unhide HJ _).mono ?_
      rintro e w1 ⟨rfl, hb1⟩
      have h1 := (unhide HR).below hb1
      have c1 := h1.c1; have f3 := h1.fz 3; have f1 := h1.fz 1; have hln1 := h1.lt
      have g3 := h1.c3
      have h2 := h1.set_err 0
      rw [errV_0] at h2
      have c1 := h2.c1; have f1 := h2.fz 1; have g3 := h2.c3
      rw [errV_0] at g3
      have h3 := h2.set_at (p + 1) (by omega)
      have HR3 := hide h3; have HT := hide (Tn.on (Tn.of (N := N) hb1) (Tn.on (Tn.set N 3 w1 .nilIface) (Tn.set N 1 _ (.int .i64 ((p + 1 : Nat) : Int)))))
      clear h1 h2 h3 hb1 HR
      go_wp2
      go_ret
      exact ⟨rfl, unhide HR3, unhide HT⟩
    · rw [if_neg hz] at hpB
      rw [errV_pos hz] at hJ
      rw [hpB]
      have HZ := hide hz
      have HJ := hide hJ; have HR := hide h; clear hJ h hpB hc hz
      go_enter Tryd.func46, Tryd.ntmps46
      go_wp2_with fail
      go_quiet (fail)
      go_wp2_with fail
      go_quiet (fail)
      go_wp2_with fail
      refine (unhide HJ _).mono ?_
      rintro e w1 ⟨rfl, hb1⟩
      have h1 := (unhide HR).below hb1
      have f3 := h1.fz 3
      have g3 := h1.c3
      have hln1 := h1.lt
      have h2 := h1.set_err (jZ c)
      rw [errV_pos (unhide HZ)] at h2
      have HR3 := hide h2; have HT := hide (Tn.on (Tn.of (N := N) hb1) (Tn.set N 3 w1 (.iface 64 (.int .i64 (jZ c)))))
      clear h1 h2 hb1 HR
      go_wp2
      go_ret
      exact ⟨rfl, unhide HR3, unhide HT⟩
  · obtain rfl : p = len := by omega
    have hpB : pB zs p jZ = ⟨4, p, 0⟩ := by unfold pB; rw [if_pos (by omega)]
    rw [hpB]
    have h2 := fun m => (h.below (Below.drewn w m)).set_err 4
    rw [errV_4] at h2
    have HR := hide h2; clear h h2 hpB hp hat
    go_enter Tryd.func46, Tryd.ntmps46
    go_wp2_with fail
    go_quiet (fail)
    go_wp2
    go_ret
    exact ⟨rfl, unhide HR _, Tn.on (Tn.drewN N w _) (Tn.set N 3 _ _)⟩

/-- something was wrong already -/
theorem obK_err {N len cap p k : Nat} {a : Option Addr} {zs : List Int} {er : Int} {w : World} (h : Rd w N a len cap zs p k er) (he : ¬ er = 0) :
    Calls Tryd.prog 46 #[.pointer (some ⟨N, 0, none⟩), .func (.func 82) #[] #[]] w fun e w' => e = .returned (.int .u8 0) ∧ Rd w' N a len cap zs p k er ∧ Tn N w w' := by
  have c3 := h.c3
  rw [errV_pos he] at c3
  have HR := hide h; clear h he
  go_enter Tryd.func46, Tryd.ntmps46
  go_wp2_with fail
  go_quiet (fail)
  go_wp2
  go_ret
  exact ⟨rfl, (unhide HR).below (Below.drewn _ _), Tn.drewN _ _ _⟩
set_option maxRecDepth 100000 in
set_option maxHeartbeats 1600000 in
theorem obK_any {N len cap p k : Nat} {a : Option Addr} {zs : List Int} {w : World} (h : Rd w N a len cap zs p k 0) :
    Calls Tryd.prog 46 #[.pointer (some ⟨N, 0, none⟩), .func (.func 82) #[] #[]] w fun e w' => e = .returned (.int .u8 (pB zs p jK).v) ∧ Rd w' N a len cap zs (pB zs p jK).at_ k (pB zs p jK).e ∧ Tn N w w' := by
  have c3 := h.c3
  rw [errV_0] at c3
  have c0 := h.c0; have c1 := h.c1; have fz := h.fz 3; have fz1 := h.fz 1; have hln := h.lt
  have hzl := h.zlen
  have hl := h.len
  have hat := h.at_
  by_cases hp : p < len
  · obtain ⟨b, o, rfl, hb, v0, v1⟩ := h.byte hp
    have hpB : pB zs p jK = if jK (zs.getD p 0) = 0 then ⟨0, p + 1, zs.getD p 0⟩ else ⟨jK (zs.getD p 0), p, 0⟩ := by unfold pB; rw [if_neg (by omega)]
    obtain ⟨c, hc⟩ : ∃ c : Nat, zs.getD p 0 = (c : Int) := ⟨(zs.getD p 0).toNat, by omega⟩
    rw [hc] at hb hpB v1
    have hJ : ∀ m, Calls Tryd.prog 82 #[.int .u8 c] (w.drewN m) fun e w' => e = .returned (errV (jK c)) ∧ Below w.heap.size w w' := fun m => (jk_any c _).mono fun e w' q => ⟨q.1, Below.on (Below.drewn w m) q.2⟩
    have hlt : (p : Int) < len := by omega
    have hne : ((p : Int) == (len : Int)) = false := by simp; omega
    by_cases hz : jK (c : Int) = 0
    · rw [hz, errV_0] at hJ
      rw [if_pos hz] at hpB
      rw [hpB]
      have HJ := hide hJ; have HR := hide h; clear hJ h hpB hc hz
      go_enter Tryd.func46, Tryd.ntmps46
      go_wp2_with fail
      go_quiet (fail)
      go_wp2_with fail
      go_quiet (fail)
      go_wp2_with fail
      refine (unhide HJ _).mono ?_
      rintro e w1 ⟨rfl, hb1⟩
      have h1 := (unhide HR).below hb1
      have c1 := h1.c1; have f3 := h1.fz 3; have f1 := h1.fz 1; have hln1 := h1.lt
      have g3 := h1.c3
      have h2 := h1.set_err 0
      rw [errV_0] at h2
      have c1 := h2.c1; have f1 := h2.fz 1; have g3 := h2.c3
      rw [errV_0] at g3
      have h3 := h2.set_at (p + 1) (by omega)
      have HR3 := hide h3; have HT := hide (Tn.on (Tn.of (N := N) hb1) (Tn.on (Tn.set N 3 w1 .nilIface) (Tn.set N 1 _ (.int .i64 ((p + 1 : Nat) : Int)))))
      clear h1 h2 h3 hb1 HR
      go_wp2
      go_ret
      exact ⟨rfl, unhide HR3, unhide HT⟩
    · rw [if_neg hz] at hpB
      rw [errV_pos hz] at hJ
      rw [hpB]
      have HZ := hide hz
      have HJ := hide hJ; have HR := hide h; clear hJ h hpB hc hz
      go_enter Tryd.func46, Tryd.ntmps46
      go_wp2_with fail
      go_quiet (fail)
      go_wp2_with fail
      go_quiet (fail)
      go_wp2_with fail
      refine (unhide HJ _).mono ?_
      rintro e w1 ⟨rfl, hb1⟩
      have h1 := (unhide HR).below hb1
      have f3 := h1.fz 3
      have g3 := h1.c3
      have hln1 := h1.lt
      have h2 := h1.set_err (jK c)
      rw [errV_pos (unhide HZ)] at h2
      have HR3 := hide h2; have HT := hide (Tn.on (Tn.of (N := N) hb1) (Tn.set N 3 w1 (.iface 64 (.int .i64 (jK c)))))
      clear h1 h2 hb1 HR
      go_wp2
      go_ret
      exact ⟨rfl, unhide HR3, unhide HT⟩
  · obtain rfl : p = len := by omega
    have hpB : pB zs p jK = ⟨4, p, 0⟩ := by unfold pB; rw [if_pos (by omega)]
    rw [hpB]
    have h2 := fun m => (h.below (Below.drewn w m)).set_err 4
    rw [errV_4] at h2
    have HR := hide h2; clear h h2 hpB hp hat
    go_enter Tryd.func46, Tryd.ntmps46
    go_wp2_with fail
    go_quiet (fail)
    go_wp2
    go_ret
    exact ⟨rfl, unhide HR _, Tn.on (Tn.drewN N w _) (Tn.set N 3 _ _)⟩

/-- something was wrong already -/
theorem obO_err {N len cap p k : Nat} {a : Option Addr} {zs : List Int} {er : Int} {b0 b1 b2 nest : Nat} {me : Bool} {w : World} (h : Rd w N a len cap zs p k er) (he : ¬ er = 0) :
    Calls Tryd.prog 46 #[.pointer (some ⟨N, 0, none⟩), .func (.func 47) #[] #[.pointer (some ⟨b0, 0, none⟩), .pointer (some ⟨b1, 0, none⟩), .pointer (some ⟨b2, 0, none⟩)]] w fun e w' => e = .returned (.int .u8 0) ∧ Rd w' N a len cap zs p k er ∧ Tn N w w' := by
  have c3 := h.c3
  rw [errV_pos he] at c3
  have HR := hide h; clear h he
  go_enter Tryd.func46, Tryd.ntmps46
  go_wp2_with fail
  go_quiet (fail)
  go_wp2
  go_ret
  exact ⟨rfl, (unhide HR).below (Below.drewn _ _), Tn.drewN _ _ _⟩
set_option maxRecDepth 100000 in
set_option maxHeartbeats 1600000 in
theorem obO_any {N len cap p k : Nat} {a : Option Addr} {zs : List Int} {b0 b1 b2 nest : Nat} {me : Bool} {w : World} (h : Rd w N a len cap zs p k 0) (hT : Tb w) (hn : nest ≤ 64) (q0 : w.cell? ⟨b0, 0, none⟩ = some (.pointer (some ⟨N, 0, none⟩))) (q1 : w.cell? ⟨b1, 0, none⟩ = some (.int .i64 nest)) (q2 : w.cell? ⟨b2, 0, none⟩ = some (.bool me)) :
    Calls Tryd.prog 46 #[.pointer (some ⟨N, 0, none⟩), .func (.func 47) #[] #[.pointer (some ⟨b0, 0, none⟩), .pointer (some ⟨b1, 0, none⟩), .pointer (some ⟨b2, 0, none⟩)]] w fun e w' => e = .returned (.int .u8 (pB zs p (jO k nest me)).v) ∧ Rd w' N a len cap zs (pB zs p (jO k nest me)).at_ k (pB zs p (jO k nest me)).e ∧ Tn N w w' := by
  have c3 := h.c3
  rw [errV_0] at c3
  have c0 := h.c0; have c1 := h.c1; have fz := h.fz 3; have fz1 := h.fz 1; have hln := h.lt
  have hzl := h.zlen
  have hl := h.len
  have hat := h.at_
  by_cases hp : p < len
  · obtain ⟨b, o, rfl, hb, v0, v1⟩ := h.byte hp
    have hpB : pB zs p (jO k nest me) = if (jO k nest me) (zs.getD p 0) = 0 then ⟨0, p + 1, zs.getD p 0⟩ else ⟨(jO k nest me) (zs.getD p 0), p, 0⟩ := by unfold pB; rw [if_neg (by omega)]
    obtain ⟨c, hc⟩ : ∃ c : Nat, zs.getD p 0 = (c : Int) := ⟨(zs.getD p 0).toNat, by omega⟩
    rw [hc] at hb hpB v1
    have hJ : ∀ m, Calls Tryd.prog 47 #[.int .u8 c, .pointer (some ⟨b0, 0, none⟩), .pointer (some ⟨b1, 0, none⟩), .pointer (some ⟨b2, 0, none⟩)] (w.drewN m) fun e w' => e = .returned (errV ((jO k nest me) c)) ∧ Below w.heap.size w w' := fun m => (l1_any N b0 b1 b2 c k nest me (w.drewN m) (hT.below (Below.drewn w m)) (by omega) h.c2 h.k hn q0 q1 q2).mono fun e w' q => ⟨q.1, Below.on (Below.drewn w m) q.2⟩
    have hlt : (p : Int) < len := by omega
    have hne : ((p : Int) == (len : Int)) = false := by simp; omega
    by_cases hz : (jO k nest me) (c : Int) = 0
    · rw [hz, errV_0] at hJ
      rw [if_pos hz] at hpB
      rw [hpB]
      have HJ := hide hJ; have HR := hide h; clear hJ h hpB hc hz
      go_enter Tryd.func46, Tryd.ntmps46
      go_wp2_with fail
      go_quiet (fail)
      go_wp2_with fail
      go_quiet (fail)
      go_wp2_with fail
      refine (unhide HJ _).mono ?_
      rintro e w1 ⟨rfl, hb1⟩
      have h1 := (unhide HR).below hb1
      have c1 := h1.c1; have f3 := h1.fz 3; have f1 := h1.fz 1; have hln1 := h1.lt
      have g3 := h1.c3
      have h2 := h1.set_err 0
      rw [errV_0] at h2
      have c1 := h2.c1; have f1 := h2.fz 1; have g3 := h2.c3
      rw [errV_0] at g3
      have h3 := h2.set_at (p + 1) (by omega)
      have HR3 := hide h3; have HT := hide (Tn.on (Tn.of (N := N) hb1) (Tn.on (Tn.set N 3 w1 .nilIface) (Tn.set N 1 _ (.int .i64 ((p + 1 : Nat) : Int)))))
      clear h1 h2 h3 hb1 HR
      go_wp2
      go_ret
      exact ⟨rfl, unhide HR3, unhide HT⟩
    · rw [if_neg hz] at hpB
      rw [errV_pos hz] at hJ
      rw [hpB]
      have HZ := hide hz
      have HJ := hide hJ; have HR := hide h; clear hJ h hpB hc hz
      go_enter Tryd.func46, Tryd.ntmps46
      go_wp2_with fail
      go_quiet (fail)
      go_wp2_with fail
      go_quiet (fail)
      go_wp2_with fail
      refine (unhide HJ _).mono ?_
      rintro e w1 ⟨rfl, hb1⟩
      have h1 := (unhide HR).below hb1
      have f3 := h1.fz 3
      have g3 := h1.c3
      have hln1 := h1.lt
      have h2 := h1.set_err ((jO k nest me) c)
      rw [errV_pos (unhide HZ)] at h2
      have HR3 := hide h2; have HT := hide (Tn.on (Tn.of (N := N) hb1) (Tn.set N 3 w1 (.iface 64 (.int .i64 ((jO k nest me) c)))))
      clear h1 h2 hb1 HR
      go_wp2
      go_ret
      exact ⟨rfl, unhide HR3, unhide HT⟩
  · obtain rfl : p = len := by omega
    have hpB : pB zs p (jO k nest me) = ⟨4, p, 0⟩ := by unfold pB; rw [if_pos (by omega)]
    rw [hpB]
    have h2 := fun m => (h.below (Below.drewn w m)).set_err 4
    rw [errV_4] at h2
    have HR := hide h2; clear h h2 hpB hp hat
    go_enter Tryd.func46, Tryd.ntmps46
    go_wp2_with fail
    go_quiet (fail)
    go_wp2
    go_ret
    exact ⟨rfl, unhide HR _, Tn.on (Tn.drewN N w _) (Tn.set N 3 _ _)⟩
end Ex
end Go.Proofs.YtjhmglefejclpaaDoor

/- The reader's numbers: unsignedUpTo, unsigned, signed; kind. -/
namespace Go.Proofs.YtjhmglefejclpaaDoor
open Go.RowKit
namespace Ex
set_option linter.unusedVariables false

theorem row_drop {w : World} {b o len : Nat} {zs : List Int} (h : Row w (some ⟨b, o, none⟩) len zs) (p : Nat) (hp : p < len) : Row w (some ⟨b, o + p, none⟩) (len - p) (zs.drop p) := by
  obtain ⟨b', o', e, hlt, hc⟩ := h.2.2 (by omega)
  simp only [Option.some.injEq, Addr.mk.injEq] at e
  obtain ⟨rfl, rfl, _⟩ := e
  refine ⟨by rw [List.length_drop, h.1], fun z hz => h.2.1 z (List.mem_of_mem_drop hz), fun _ => ⟨b, o + p, rfl, hlt, fun i hi => ?_⟩⟩
  rw [show o + p + i = o + (p + i) by omega, hc (p + i) (by omega)]
  simp [List.getD]
theorem row_none (w : World) (a : Option Addr) : Row w a 0 [] := ⟨rfl, by simp, fun h => by omega⟩
theorem lead_bd {qs : List Int} (h : ∀ z ∈ qs, 0 ≤ z ∧ z ≤ 255) : 0 ≤ qs.getD (Leb.lead qs) 0 := by
  by_cases hl : Leb.lead qs < qs.length
  · rw [List.getD, List.getElem?_eq_getElem hl]
    exact (h _ (List.getElem_mem hl)).1
  · simp [List.getD, List.getElem?_eq_none (by omega : qs.length ≤ Leb.lead qs)]
theorem tuE_cnt {qs : List Int} {n : Int} (h : Leb.tuE qs n = 0) : Leb.cntE qs n = 0 := by
  unfold Leb.tuE at h
  by_cases hh : Leb.cntE qs n = 0
  · exact hh
  · rw [if_neg hh] at h; exact h
theorem tsE_cnt {qs : List Int} {n : Int} (h : Leb.tsE qs n = 0) : Leb.cntE qs n = 0 := by
  unfold Leb.tsE at h
  by_cases hh : Leb.cntE qs n = 0
  · exact hh
  · rw [if_neg hh] at h; exact h
theorem tuV_32 {qs : List Int} (hq : ∀ z ∈ qs, 0 ≤ z ∧ z ≤ 255) (h : Leb.tuE qs 32 = 0) : 0 ≤ Leb.tuV qs 32 ∧ Leb.tuV qs 32 < 4294967296 := by
  have h1 := Leb.tuE_iff qs 32 (tuE_cnt h) (lead_bd hq)
  rw [show Leb.tuE qs ((32 : Nat) : Int) = 0 from h] at h1
  have hj := Leb.jn_bd (qs.take (Leb.lead qs + 1))
  have h2 : Leb.JJ qs / 2 ^ 32 = 0 := by
    by_cases e : Leb.JJ qs / 2 ^ 32 = 0
    · exact e
    · rw [if_neg e] at h1; exact absurd h1 (by decide)
  unfold Leb.tuV
  rw [if_pos h]
  unfold Leb.JJ at h2
  have : (2 : Int) ^ 32 = 4294967296 := by decide
  rw [this] at h2
  omega
theorem tsV_32 {qs : List Int} (hq : ∀ z ∈ qs, 0 ≤ z ∧ z ≤ 255) (h : Leb.tsE qs 32 = 0) : -2147483648 ≤ Leb.tsV qs 32 ∧ Leb.tsV qs 32 < 2147483648 := by
  have h1 := Leb.tsE_iff qs 31 (tsE_cnt h) (lead_bd hq)
  rw [show Leb.tsE qs ((31 + 1 : Nat) : Int) = 0 from h] at h1
  have h2 : Leb.XX qs / 2 ^ 31 = 0 ∨ Leb.XX qs / 2 ^ 31 = -1 := by
    by_cases e : Leb.XX qs / 2 ^ 31 = 0 ∨ Leb.XX qs / 2 ^ 31 = -1
    · exact e
    · rw [if_neg e] at h1; exact absurd h1 (by decide)
  have : (2 : Int) ^ 31 = 2147483648 := by decide
  rw [this] at h2
  unfold Leb.tsV
  rw [if_pos h]
  have e2 : Leb.jn (qs.take (Leb.lead qs + 1)) - (if Leb.sg (qs.getD (Leb.lead qs) 0) < 0 then 128 ^ (Leb.lead qs + 1) else 0) = Leb.XX qs := rfl
  rw [e2, IntKind.wrap_i64]
  omega
theorem tsV_64 (qs : List Int) (n : Int) : -9223372036854775808 ≤ Leb.tsV qs n ∧ Leb.tsV qs n < 9223372036854775808 := by
  unfold Leb.tsV
  split
  · rw [IntKind.wrap_i64]; omega
  · omega
theorem tuE_nil (n : Int) (h1 : 1 ≤ n) (h2 : n ≤ 64) : Leb.tuE [] n = 4 := by
  have := (Leb.cnt_end [] n h1 h2 (by simp [Leb.lead, Leb.mb]; omega) rfl).1
  unfold Leb.tuE; rw [if_neg (by omega), this]
theorem tsE_nil (n : Int) (h1 : 1 ≤ n) (h2 : n ≤ 64) : Leb.tsE [] n = 4 := by
  have := (Leb.cnt_end [] n h1 h2 (by simp [Leb.lead, Leb.mb]; omega) rfl).1
  unfold Leb.tsE; rw [if_neg (by omega), this]
theorem tuV_no {qs : List Int} {n : Int} (h : ¬ Leb.tuE qs n = 0) : Leb.tuV qs n = 0 ∧ Leb.tuN qs n = 0 := by unfold Leb.tuV Leb.tuN; rw [if_neg h, if_neg h]; exact ⟨rfl, rfl⟩
theorem tsV_no {qs : List Int} {n : Int} (h : ¬ Leb.tsE qs n = 0) : Leb.tsV qs n = 0 ∧ Leb.tsN qs n = 0 := by unfold Leb.tsV Leb.tsN; rw [if_neg h, if_neg h]; exact ⟨rfl, rfl⟩

/-- something was wrong already -/
theorem ut_err {N len cap p k : Nat} {a : Option Addr} {zs : List Int} {er : Int} {w : World} (h : Rd w N a len cap zs p k er) (he : ¬ er = 0) (most : Int) :
    Calls Tryd.prog 81 #[.pointer (some ⟨N, 0, none⟩), .int .u64 most] w fun e w' => e = .returned (.int .u32 0) ∧ Rd w' N a len cap zs p k er ∧ Tn N w w' := by
  have c3 := h.c3
  rw [errV_pos he] at c3
  have HR := hide h; clear h he
  go_enter Tryd.func81, Tryd.ntmps81
  go_wp2
  go_ret
  exact ⟨rfl, unhide HR, Tn.refl _ _⟩
theorem sg_err {N len cap p k : Nat} {a : Option Addr} {zs : List Int} {er : Int} {w : World} (h : Rd w N a len cap zs p k er) (he : ¬ er = 0) (bits : Int) :
    Calls Tryd.prog 65 #[.pointer (some ⟨N, 0, none⟩), .int .i64 bits] w fun e w' => e = .returned (.int .i64 0) ∧ Rd w' N a len cap zs p k er ∧ Tn N w w' := by
  have c3 := h.c3
  rw [errV_pos he] at c3
  have HR := hide h; clear h he
  go_enter Tryd.func65, Tryd.ntmps65
  go_wp2
  go_ret
  exact ⟨rfl, unhide HR, Tn.refl _ _⟩

set_option maxRecDepth 100000 in
set_option maxHeartbeats 1600000 in
theorem ut_in_ok {N len cap p k b o : Nat} {zs : List Int} {w : World} (h : Rd w N (some ⟨b, o, none⟩) len cap zs p k 0) (hp : (p : Int) < len) (hc : (len : Int) ≤ cap) (most v : Int) (n : Nat) (hn : p + n ≤ len) (v0 : 0 ≤ v) (v1 : v < 4294967296) (hm : ¬ most < v)
    (hU : ∀ m, Calls Tryd.prog 93 #[.slice (some ⟨b, o + p, none⟩) (len - p) (cap - p), .int .i64 32] (w.drewN m) fun e w' => e = .returned (.tuple #[.int .u64 v, .int .i64 n, .nilIface]) ∧ ∃ j, w' = w.drewN j) :
    Calls Tryd.prog 81 #[.pointer (some ⟨N, 0, none⟩), .int .u64 most] w fun e w' => e = .returned (.int .u32 v) ∧ Rd w' N (some ⟨b, o, none⟩) len cap zs (p + n) k 0 ∧ Tn N w w' := by
  have c3 := h.c3
  rw [errV_0] at c3
  have c0 := h.c0; have c1 := h.c1; have f3 := h.fz 3; have f1 := h.fz 1
  have h2 := fun m => (h.below (Below.drewn w m)).set_err 0
  have h3 := fun m => (h2 m).set_at (p + n) hn
  have c1' := fun m => (h2 m).c1; have f1' := fun m => (h2 m).fz 1; have c3' := fun m => (h2 m).c3
  rw [errV_0] at c1' f1' c3' h3
  have hl := h.len
  have HU := hide hU; have HR := hide h3; clear h h2 h3 hU
  go_enter Tryd.func81, Tryd.ntmps81
  go_wp2_with fail
  go_quiet ((go_at_call 93; exact unhide HU _))
  go_wp2
  go_ret
  exact ⟨rfl, unhide HR _, Tn.on (Tn.drewN N w _) (Tn.on (Tn.set N 3 _ _) (Tn.set N 1 _ _))⟩
set_option maxRecDepth 100000 in
set_option maxHeartbeats 1600000 in
theorem ut_in_lim {N len cap p k b o : Nat} {zs : List Int} {w : World} (h : Rd w N (some ⟨b, o, none⟩) len cap zs p k 0) (hp : (p : Int) < len) (hc : (len : Int) ≤ cap) (most v : Int) (n : Nat) (hm : most < v)
    (hU : ∀ m, Calls Tryd.prog 93 #[.slice (some ⟨b, o + p, none⟩) (len - p) (cap - p), .int .i64 32] (w.drewN m) fun e w' => e = .returned (.tuple #[.int .u64 v, .int .i64 n, .nilIface]) ∧ ∃ j, w' = w.drewN j) :
    Calls Tryd.prog 81 #[.pointer (some ⟨N, 0, none⟩), .int .u64 most] w fun e w' => e = .returned (.int .u32 0) ∧ Rd w' N (some ⟨b, o, none⟩) len cap zs p k 9 ∧ Tn N w w' := by
  have c3 := h.c3
  rw [errV_0] at c3
  have c0 := h.c0; have c1 := h.c1; have f3 := h.fz 3; have f1 := h.fz 1
  have h2 := fun m => (h.below (Below.drewn w m)).set_err 9
  rw [errV_9] at h2
  have HU := hide hU; have HR := hide h2; clear h h2 hU
  go_enter Tryd.func81, Tryd.ntmps81
  go_wp2_with fail
  go_quiet ((go_at_call 93; exact unhide HU _))
  go_wp2
  go_ret
  exact ⟨rfl, unhide HR _, Tn.on (Tn.drewN N w _) (Tn.set N 3 _ _)⟩
set_option maxRecDepth 100000 in
set_option maxHeartbeats 1600000 in
theorem sg_in_ok {N len cap p k b o : Nat} {zs : List Int} {w : World} (h : Rd w N (some ⟨b, o, none⟩) len cap zs p k 0) (hp : (p : Int) < len) (hc : (len : Int) ≤ cap) (bits v : Int) (n : Nat) (hn : p + n ≤ len)
    (hU : ∀ m, Calls Tryd.prog 80 #[.slice (some ⟨b, o + p, none⟩) (len - p) (cap - p), .int .i64 bits] (w.drewN m) fun e w' => e = .returned (.tuple #[.int .i64 v, .int .i64 n, .nilIface]) ∧ ∃ j, w' = w.drewN j) :
    Calls Tryd.prog 65 #[.pointer (some ⟨N, 0, none⟩), .int .i64 bits] w fun e w' => e = .returned (.int .i64 v) ∧ Rd w' N (some ⟨b, o, none⟩) len cap zs (p + n) k 0 ∧ Tn N w w' := by
  have c3 := h.c3
  rw [errV_0] at c3
  have c0 := h.c0; have c1 := h.c1; have f3 := h.fz 3; have f1 := h.fz 1
  have h2 := fun m => (h.below (Below.drewn w m)).set_at (p + n) hn
  have h3 := fun m => (h2 m).set_err 0
  have c1' := fun m => (h2 m).c1; have f1' := fun m => (h2 m).fz 3; have c3' := fun m => (h2 m).c3
  rw [errV_0] at c3' h3
  have hl := h.len
  have HU := hide hU; have HR := hide h3; clear h h2 h3 hU
  go_enter Tryd.func65, Tryd.ntmps65
  go_wp2_with fail
  go_quiet ((go_at_call 80; exact unhide HU _))
  go_wp2
  go_ret
  exact ⟨rfl, unhide HR _, Tn.on (Tn.drewN N w _) (Tn.on (Tn.set N 1 _ _) (Tn.set N 3 _ _))⟩

set_option maxRecDepth 100000 in
set_option maxHeartbeats 1600000 in
theorem ut_in_bad {N len cap p k b o : Nat} {zs : List Int} {w : World} (h : Rd w N (some ⟨b, o, none⟩) len cap zs p k 0) (hp : (p : Int) < len) (hc : (len : Int) ≤ cap) (most : Int) (er : Int) (he : ¬ er = 0)
    (hU : ∀ m, Calls Tryd.prog 93 #[.slice (some ⟨b, o + p, none⟩) (len - p) (cap - p), .int .i64 32] (w.drewN m) fun e w' => e = .returned (.tuple #[.int .u64 0, .int .i64 0, errV er]) ∧ ∃ j, w' = w.drewN j) :
    Calls Tryd.prog 81 #[.pointer (some ⟨N, 0, none⟩), .int .u64 most] w fun e w' => e = .returned (.int .u32 0) ∧ Rd w' N (some ⟨b, o, none⟩) len cap zs p k er ∧ Tn N w w' := by
  have c3 := h.c3
  rw [errV_0] at c3
  have c0 := h.c0; have c1 := h.c1; have f3 := h.fz 3; have f1 := h.fz 1
  have h2 := fun m => (h.below (Below.drewn w m)).set_err er
  rw [errV_pos he] at h2 hU
  have HU := hide hU; have HR := hide h2; clear h h2 hU he
  go_enter Tryd.func81, Tryd.ntmps81
  go_wp2_with fail
  go_quiet ((go_at_call 93; exact unhide HU _))
  go_wp2
  go_ret
  exact ⟨rfl, unhide HR _, Tn.on (Tn.drewN N w _) (Tn.set N 3 _ _)⟩
set_option maxRecDepth 100000 in
set_option maxHeartbeats 1600000 in
theorem sg_in_bad {N len cap p k b o : Nat} {zs : List Int} {w : World} (h : Rd w N (some ⟨b, o, none⟩) len cap zs p k 0) (hp : (p : Int) < len) (hc : (len : Int) ≤ cap) (bits : Int) (er : Int) (he : ¬ er = 0)
    (hU : ∀ m, Calls Tryd.prog 80 #[.slice (some ⟨b, o + p, none⟩) (len - p) (cap - p), .int .i64 bits] (w.drewN m) fun e w' => e = .returned (.tuple #[.int .i64 0, .int .i64 0, errV er]) ∧ ∃ j, w' = w.drewN j) :
    Calls Tryd.prog 65 #[.pointer (some ⟨N, 0, none⟩), .int .i64 bits] w fun e w' => e = .returned (.int .i64 0) ∧ Rd w' N (some ⟨b, o, none⟩) len cap zs p k er ∧ Tn N w w' := by
  have c3 := h.c3
  rw [errV_0] at c3
  have c0 := h.c0; have c1 := h.c1; have f3 := h.fz 3; have f1 := h.fz 1
  have hl := h.len
  have hat := h.at_
  have h2 := fun m => (h.below (Below.drewn w m)).set_at p (Nat.le_trans h.at_ (Nat.le_refl _))
  have h3 := fun m => (h2 m).set_err er
  have c1' := fun m => (h2 m).c1; have f1' := fun m => (h2 m).fz 3; have c3' := fun m => (h2 m).c3
  rw [errV_0] at c3'
  rw [errV_pos he] at h3 hU
  have HU := hide hU; have HR := hide h3; clear h h2 h3 hU he
  go_enter Tryd.func65, Tryd.ntmps65
  go_wp2_with fail
  go_quiet ((go_at_call 80; exact unhide HU _))
  go_wp2
  go_ret
  exact ⟨rfl, unhide HR _, Tn.on (Tn.drewN N w _) (Tn.on (Tn.set N 1 _ _) (Tn.set N 3 _ _))⟩

set_option maxRecDepth 100000 in
set_option maxHeartbeats 1600000 in
theorem ut_at_bad {N cap p k b o : Nat} {zs : List Int} {w : World} (h : Rd w N (some ⟨b, o, none⟩) p cap zs p k 0) (hc : (p : Int) < cap) (most : Int) (er : Int) (he : ¬ er = 0)
    (hU : ∀ m, Calls Tryd.prog 93 #[.slice (some ⟨b, o + p, none⟩) 0 (cap - p), .int .i64 32] (w.drewN m) fun e w' => e = .returned (.tuple #[.int .u64 0, .int .i64 0, errV er]) ∧ ∃ j, w' = w.drewN j) :
    Calls Tryd.prog 81 #[.pointer (some ⟨N, 0, none⟩), .int .u64 most] w fun e w' => e = .returned (.int .u32 0) ∧ Rd w' N (some ⟨b, o, none⟩) p cap zs p k er ∧ Tn N w w' := by
  have c3 := h.c3
  rw [errV_0] at c3
  have c0 := h.c0; have c1 := h.c1; have f3 := h.fz 3; have f1 := h.fz 1
  have h2 := fun m => (h.below (Below.drewn w m)).set_err er
  rw [errV_pos he] at h2 hU
  have HU := hide hU; have HR := hide h2; clear h h2 hU he
  go_enter Tryd.func81, Tryd.ntmps81
  go_wp2_with fail
  go_quiet ((go_at_call 93; exact unhide HU _))
  go_wp2
  go_ret
  exact ⟨rfl, unhide HR _, Tn.on (Tn.drewN N w _) (Tn.set N 3 _ _)⟩
set_option maxRecDepth 100000 in
set_option maxHeartbeats 1600000 in
theorem sg_at_bad {N cap p k b o : Nat} {zs : List Int} {w : World} (h : Rd w N (some ⟨b, o, none⟩) p cap zs p k 0) (hc : (p : Int) < cap) (bits : Int) (er : Int) (he : ¬ er = 0)
    (hU : ∀ m, Calls Tryd.prog 80 #[.slice (some ⟨b, o + p, none⟩) 0 (cap - p), .int .i64 bits] (w.drewN m) fun e w' => e = .returned (.tuple #[.int .i64 0, .int .i64 0, errV er]) ∧ ∃ j, w' = w.drewN j) :
    Calls Tryd.prog 65 #[.pointer (some ⟨N, 0, none⟩), .int .i64 bits] w fun e w' => e = .returned (.int .i64 0) ∧ Rd w' N (some ⟨b, o, none⟩) p cap zs p k er ∧ Tn N w w' := by
  have c3 := h.c3
  rw [errV_0] at c3
  have c0 := h.c0; have c1 := h.c1; have f3 := h.fz 3; have f1 := h.fz 1
  have hl := h.len
  have hat := h.at_
  have h2 := fun m => (h.below (Below.drewn w m)).set_at p (Nat.le_trans h.at_ (Nat.le_refl _))
  have h3 := fun m => (h2 m).set_err er
  have c1' := fun m => (h2 m).c1; have f1' := fun m => (h2 m).fz 3; have c3' := fun m => (h2 m).c3
  rw [errV_0] at c3'
  rw [errV_pos he] at h3 hU
  have HU := hide hU; have HR := hide h3; clear h h2 h3 hU he
  go_enter Tryd.func65, Tryd.ntmps65
  go_wp2_with fail
  go_quiet ((go_at_call 80; exact unhide HU _))
  go_wp2
  go_ret
  exact ⟨rfl, unhide HR _, Tn.on (Tn.drewN N w _) (Tn.on (Tn.set N 1 _ _) (Tn.set N 3 _ _))⟩

set_option maxRecDepth 100000 in
set_option maxHeartbeats 1600000 in
theorem ut_full_bad {N p k b o : Nat} {zs : List Int} {w : World} (h : Rd w N (some ⟨b, o, none⟩) p p zs p k 0)  (most : Int) (er : Int) (he : ¬ er = 0)
    (hU : ∀ m, Calls Tryd.prog 93 #[.slice (some ⟨b, o, none⟩) 0 0, .int .i64 32] (w.drewN m) fun e w' => e = .returned (.tuple #[.int .u64 0, .int .i64 0, errV er]) ∧ ∃ j, w' = w.drewN j) :
    Calls Tryd.prog 81 #[.pointer (some ⟨N, 0, none⟩), .int .u64 most] w fun e w' => e = .returned (.int .u32 0) ∧ Rd w' N (some ⟨b, o, none⟩) p p zs p k er ∧ Tn N w w' := by
  have c3 := h.c3
  rw [errV_0] at c3
  have c0 := h.c0; have c1 := h.c1; have f3 := h.fz 3; have f1 := h.fz 1
  have h2 := fun m => (h.below (Below.drewn w m)).set_err er
  rw [errV_pos he] at h2 hU
  have HU := hide hU; have HR := hide h2; clear h h2 hU he
  go_enter Tryd.func81, Tryd.ntmps81
  go_wp2_with fail
  go_quiet ((go_at_call 93; exact unhide HU _))
  go_wp2
  go_ret
  exact ⟨rfl, unhide HR _, Tn.on (Tn.drewN N w _) (Tn.set N 3 _ _)⟩
set_option maxRecDepth 100000 in
set_option maxHeartbeats 1600000 in
theorem sg_full_bad {N p k b o : Nat} {zs : List Int} {w : World} (h : Rd w N (some ⟨b, o, none⟩) p p zs p k 0)  (bits : Int) (er : Int) (he : ¬ er = 0)
    (hU : ∀ m, Calls Tryd.prog 80 #[.slice (some ⟨b, o, none⟩) 0 0, .int .i64 bits] (w.drewN m) fun e w' => e = .returned (.tuple #[.int .i64 0, .int .i64 0, errV er]) ∧ ∃ j, w' = w.drewN j) :
    Calls Tryd.prog 65 #[.pointer (some ⟨N, 0, none⟩), .int .i64 bits] w fun e w' => e = .returned (.int .i64 0) ∧ Rd w' N (some ⟨b, o, none⟩) p p zs p k er ∧ Tn N w w' := by
  have c3 := h.c3
  rw [errV_0] at c3
  have c0 := h.c0; have c1 := h.c1; have f3 := h.fz 3; have f1 := h.fz 1
  have hl := h.len
  have hat := h.at_
  have h2 := fun m => (h.below (Below.drewn w m)).set_at p (Nat.le_trans h.at_ (Nat.le_refl _))
  have h3 := fun m => (h2 m).set_err er
  have c1' := fun m => (h2 m).c1; have f1' := fun m => (h2 m).fz 3; have c3' := fun m => (h2 m).c3
  rw [errV_0] at c3'
  rw [errV_pos he] at h3 hU
  have HU := hide hU; have HR := hide h3; clear h h2 h3 hU he
  go_enter Tryd.func65, Tryd.ntmps65
  go_wp2_with fail
  go_quiet ((go_at_call 80; exact unhide HU _))
  go_wp2
  go_ret
  exact ⟨rfl, unhide HR _, Tn.on (Tn.drewN N w _) (Tn.on (Tn.set N 1 _ _) (Tn.set N 3 _ _))⟩

set_option maxRecDepth 100000 in
set_option maxHeartbeats 1600000 in
theorem ut_zero_bad {N k cap : Nat} {ad : Addr} {zs : List Int} {w : World} (h : Rd w N (some ad) 0 cap zs 0 k 0)  (most : Int) (er : Int) (he : ¬ er = 0)
    (hU : ∀ m, Calls Tryd.prog 93 #[.slice (some ad) 0 cap, .int .i64 32] (w.drewN m) fun e w' => e = .returned (.tuple #[.int .u64 0, .int .i64 0, errV er]) ∧ ∃ j, w' = w.drewN j) :
    Calls Tryd.prog 81 #[.pointer (some ⟨N, 0, none⟩), .int .u64 most] w fun e w' => e = .returned (.int .u32 0) ∧ Rd w' N (some ad) 0 cap zs 0 k er ∧ Tn N w w' := by
  have c3 := h.c3
  rw [errV_0] at c3
  have c0 := h.c0; have c1 := h.c1; have f3 := h.fz 3; have f1 := h.fz 1
  have h2 := fun m => (h.below (Below.drewn w m)).set_err er
  rw [errV_pos he] at h2 hU
  have HU := hide hU; have HR := hide h2; clear h h2 hU he
  go_enter Tryd.func81, Tryd.ntmps81
  go_wp2_with fail
  go_quiet ((go_at_call 93; exact unhide HU _))
  go_wp2
  go_ret
  exact ⟨rfl, unhide HR _, Tn.on (Tn.drewN N w _) (Tn.set N 3 _ _)⟩
set_option maxRecDepth 100000 in
set_option maxHeartbeats 1600000 in
theorem sg_zero_bad {N k cap : Nat} {ad : Addr} {zs : List Int} {w : World} (h : Rd w N (some ad) 0 cap zs 0 k 0)  (bits : Int) (er : Int) (he : ¬ er = 0)
    (hU : ∀ m, Calls Tryd.prog 80 #[.slice (some ad) 0 cap, .int .i64 bits] (w.drewN m) fun e w' => e = .returned (.tuple #[.int .i64 0, .int .i64 0, errV er]) ∧ ∃ j, w' = w.drewN j) :
    Calls Tryd.prog 65 #[.pointer (some ⟨N, 0, none⟩), .int .i64 bits] w fun e w' => e = .returned (.int .i64 0) ∧ Rd w' N (some ad) 0 cap zs 0 k er ∧ Tn N w w' := by
  have c3 := h.c3
  rw [errV_0] at c3
  have c0 := h.c0; have c1 := h.c1; have f3 := h.fz 3; have f1 := h.fz 1
  have hl := h.len
  have hat := h.at_
  have h2 := fun m => (h.below (Below.drewn w m)).set_at 0 (Nat.le_trans h.at_ (Nat.le_refl _))
  have h3 := fun m => (h2 m).set_err er
  have c1' := fun m => (h2 m).c1; have f1' := fun m => (h2 m).fz 3; have c3' := fun m => (h2 m).c3
  rw [errV_0] at c3'
  rw [errV_pos he] at h3 hU
  have HU := hide hU; have HR := hide h3; clear h h2 h3 hU he
  go_enter Tryd.func65, Tryd.ntmps65
  go_wp2_with fail
  go_quiet ((go_at_call 80; exact unhide HU _))
  go_wp2
  go_ret
  exact ⟨rfl, unhide HR _, Tn.on (Tn.drewN N w _) (Tn.on (Tn.set N 1 _ _) (Tn.set N 3 _ _))⟩

set_option maxRecDepth 100000 in
set_option maxHeartbeats 1600000 in
theorem ut_nil_bad {N k : Nat} {zs : List Int} {w : World} (h : Rd w N none 0 0 zs 0 k 0)  (most : Int) (er : Int) (he : ¬ er = 0)
    (hU : ∀ m, Calls Tryd.prog 93 #[.slice none 0 0, .int .i64 32] (w.drewN m) fun e w' => e = .returned (.tuple #[.int .u64 0, .int .i64 0, errV er]) ∧ ∃ j, w' = w.drewN j) :
    Calls Tryd.prog 81 #[.pointer (some ⟨N, 0, none⟩), .int .u64 most] w fun e w' => e = .returned (.int .u32 0) ∧ Rd w' N none 0 0 zs 0 k er ∧ Tn N w w' := by
  have c3 := h.c3
  rw [errV_0] at c3
  have c0 := h.c0; have c1 := h.c1; have f3 := h.fz 3; have f1 := h.fz 1
  have h2 := fun m => (h.below (Below.drewn w m)).set_err er
  rw [errV_pos he] at h2 hU
  have HU := hide hU; have HR := hide h2; clear h h2 hU he
  go_enter Tryd.func81, Tryd.ntmps81
  go_wp2_with fail
  go_quiet ((go_at_call 93; exact unhide HU _))
  go_wp2
  go_ret
  exact ⟨rfl, unhide HR _, Tn.on (Tn.drewN N w _) (Tn.set N 3 _ _)⟩
set_option maxRecDepth 100000 in
set_option maxHeartbeats 1600000 in
theorem sg_nil_bad {N k : Nat} {zs : List Int} {w : World} (h : Rd w N none 0 0 zs 0 k 0)  (bits : Int) (er : Int) (he : ¬ er = 0)
    (hU : ∀ m, Calls Tryd.prog 80 #[.slice none 0 0, .int .i64 bits] (w.drewN m) fun e w' => e = .returned (.tuple #[.int .i64 0, .int .i64 0, errV er]) ∧ ∃ j, w' = w.drewN j) :
    Calls Tryd.prog 65 #[.pointer (some ⟨N, 0, none⟩), .int .i64 bits] w fun e w' => e = .returned (.int .i64 0) ∧ Rd w' N none 0 0 zs 0 k er ∧ Tn N w w' := by
  have c3 := h.c3
  rw [errV_0] at c3
  have c0 := h.c0; have c1 := h.c1; have f3 := h.fz 3; have f1 := h.fz 1
  have hl := h.len
  have hat := h.at_
  have h2 := fun m => (h.below (Below.drewn w m)).set_at 0 (Nat.le_trans h.at_ (Nat.le_refl _))
  have h3 := fun m => (h2 m).set_err er
  have c1' := fun m => (h2 m).c1; have f1' := fun m => (h2 m).fz 3; have c3' := fun m => (h2 m).c3
  rw [errV_0] at c3'
  rw [errV_pos he] at h3 hU
  have HU := hide hU; have HR := hide h3; clear h h2 h3 hU he
  go_enter Tryd.func65, Tryd.ntmps65
  go_wp2_with fail
  go_quiet ((go_at_call 80; exact unhide HU _))
  go_wp2
  go_ret
  exact ⟨rfl, unhide HR _, Tn.on (Tn.drewN N w _) (Tn.on (Tn.set N 1 _ _) (Tn.set N 3 _ _))⟩
end Ex
end Go.Proofs.YtjhmglefejclpaaDoor

/- The reader's numbers, kind and labels, as the document's parts. -/
namespace Go.Proofs.YtjhmglefejclpaaDoor
open Go.RowKit
namespace Ex
set_option linter.unusedVariables false

theorem pU_ok {zs : List Int} {p : Nat} {most : Int} (h : Leb.tuE (zs.drop p) 32 = 0) (hm : ¬ most < Leb.tuV (zs.drop p) 32) : pU zs p most = ⟨0, p + (Leb.tuN (zs.drop p) 32).toNat, Leb.tuV (zs.drop p) 32⟩ := by unfold pU; rw [if_pos h, if_neg hm]
theorem pU_lim {zs : List Int} {p : Nat} {most : Int} (h : Leb.tuE (zs.drop p) 32 = 0) (hm : most < Leb.tuV (zs.drop p) 32) : pU zs p most = ⟨9, p, 0⟩ := by unfold pU; rw [if_pos h, if_pos hm]
theorem pU_bad {zs : List Int} {p : Nat} {most : Int} (h : ¬ Leb.tuE (zs.drop p) 32 = 0) : pU zs p most = ⟨Leb.tuE (zs.drop p) 32, p, 0⟩ := by unfold pU; rw [if_neg h]
theorem pS_ok {zs : List Int} {p : Nat} {n : Int} (h : Leb.tsE (zs.drop p) n = 0) : pS zs p n = ⟨0, p + (Leb.tsN (zs.drop p) n).toNat, Leb.tsV (zs.drop p) n⟩ := by unfold pS; rw [if_pos h]
theorem pS_bad {zs : List Int} {p : Nat} {n : Int} (h : ¬ Leb.tsE (zs.drop p) n = 0) : pS zs p n = ⟨Leb.tsE (zs.drop p) n, p, 0⟩ := by unfold pS; rw [if_neg h]

/-- leb.TakeU where the reader asks it -/
theorem tu_q {w : World} {a : Option Addr} {len cap : Nat} {qs : List Int} (n : Int) (hr : Row w a len qs) (hc : len ≤ cap) (hl : len ≤ 1099511627776) :
    ∀ m, Calls Tryd.prog 93 #[.slice a len cap, .int .i64 n] (w.drewN m) fun e w' => e = .returned (.tuple #[.int .u64 (Leb.tuV qs n), .int .i64 (Leb.tuN qs n), errV (Leb.tuE qs n)]) ∧ ∃ j, w' = w.drewN j := fun m =>
  (takeU_any a len cap qs n (w.drewN m) hr hc (by omega)).mono fun e w' ⟨h, j, h'⟩ => ⟨h, m + j, by rw [h', World.drewN_drewN]⟩
theorem ts_q {w : World} {a : Option Addr} {len cap : Nat} {qs : List Int} (n : Int) (hr : Row w a len qs) (hc : len ≤ cap) (hl : len ≤ 1099511627776) :
    ∀ m, Calls Tryd.prog 80 #[.slice a len cap, .int .i64 n] (w.drewN m) fun e w' => e = .returned (.tuple #[.int .i64 (Leb.tsV qs n), .int .i64 (Leb.tsN qs n), errV (Leb.tsE qs n)]) ∧ ∃ j, w' = w.drewN j := fun m =>
  (takeS_any a len cap qs n (w.drewN m) hr hc (by omega)).mono fun e w' ⟨h, h'⟩ => ⟨h, m, h'.symm⟩

theorem ut_any {N len cap p k : Nat} {a : Option Addr} {zs : List Int} {w : World} (h : Rd w N a len cap zs p k 0) (most : Int) :
    Calls Tryd.prog 81 #[.pointer (some ⟨N, 0, none⟩), .int .u64 most] w fun e w' => e = .returned (.int .u32 (pU zs p most).v) ∧ Rd w' N a len cap zs (pU zs p most).at_ k (pU zs p most).e ∧ Tn N w w' := by
  have hl := h.len; have hat := h.at_; have hcap := h.cap; have hzl := h.zlen
  by_cases hp : p < len
  · obtain ⟨b, o, rfl, hlt, hc⟩ := h.row.2.2 (by omega)
    have hr := row_drop h.row p hp
    have hq := tu_q (cap := cap - p) 32 hr (by omega) (by omega)
    have hby := hr.2.1
    by_cases he : Leb.tuE (zs.drop p) 32 = 0
    · have hb := tu_bd _ _ he
      have hv := tuV_32 hby he
      rw [List.length_drop] at hb
      rw [he, errV_0, hb.2.2] at hq
      by_cases hm : most < Leb.tuV (zs.drop p) 32
      · rw [pU_lim he hm]
        exact ut_in_lim h (by omega) (by omega) most _ _ hm hq
      · rw [pU_ok he hm]
        exact ut_in_ok h (by omega) (by omega) most _ _ (by omega) hv.1 hv.2 hm hq
    · rw [pU_bad he]
      rw [(tuV_no he).1, (tuV_no he).2] at hq
      exact ut_in_bad h (by omega) (by omega) most _ he hq
  · obtain rfl : p = len := by omega
    have hd : zs.drop p = [] := List.drop_eq_nil_of_le (by omega)
    have he : ¬ Leb.tuE (zs.drop p) 32 = 0 := by rw [hd, tuE_nil 32 (by omega) (by omega)]; decide
    have he4 : ¬ Leb.tuE [] 32 = 0 := by rw [← hd]; exact he
    rw [pU_bad he, hd]
    have hq := fun (a : Option Addr) (c : Nat) => tu_q (cap := c) 32 (row_none w a) (by omega) (by omega)
    rw [(tuV_no he4).1, (tuV_no he4).2] at hq
    by_cases h0 : p = 0
    · subst h0
      cases a with
      | none =>
        have := h.nil rfl
        subst this
        exact ut_nil_bad h most _ he4 (hq none 0)
      | some ad => exact ut_zero_bad h most _ he4 (hq (some ad) cap)
    · obtain ⟨b, o, rfl, hlt, hc⟩ := h.row.2.2 (by omega)
      by_cases hcp : cap = p
      · subst hcp
        exact ut_full_bad h most _ he4 (hq _ _)
      · exact ut_at_bad h (by omega) most _ he4 (hq _ _)
theorem sg_any {N len cap p k : Nat} {a : Option Addr} {zs : List Int} {w : World} (h : Rd w N a len cap zs p k 0) (n : Int) (n1 : 1 ≤ n) (n2 : n ≤ 64) :
    Calls Tryd.prog 65 #[.pointer (some ⟨N, 0, none⟩), .int .i64 n] w fun e w' => e = .returned (.int .i64 (pS zs p n).v) ∧ Rd w' N a len cap zs (pS zs p n).at_ k (pS zs p n).e ∧ Tn N w w' := by
  have hl := h.len; have hat := h.at_; have hcap := h.cap; have hzl := h.zlen
  by_cases hp : p < len
  · obtain ⟨b, o, rfl, hlt, hc⟩ := h.row.2.2 (by omega)
    have hr := row_drop h.row p hp
    have hq := ts_q (cap := cap - p) n hr (by omega) (by omega)
    by_cases he : Leb.tsE (zs.drop p) n = 0
    · have hb := ts_bd _ _ he
      rw [List.length_drop] at hb
      rw [he, errV_0, hb.2.2] at hq
      rw [pS_ok he]
      exact sg_in_ok h (by omega) (by omega) n _ _ (by omega) hq
    · rw [pS_bad he]
      rw [(tsV_no he).1, (tsV_no he).2] at hq
      exact sg_in_bad h (by omega) (by omega) n _ he hq
  · obtain rfl : p = len := by omega
    have hd : zs.drop p = [] := List.drop_eq_nil_of_le (by omega)
    have he : ¬ Leb.tsE (zs.drop p) n = 0 := by rw [hd, tsE_nil n (by omega) (by omega)]; decide
    have he4 : ¬ Leb.tsE [] n = 0 := by rw [← hd]; exact he
    rw [pS_bad he, hd]
    have hq := fun (a : Option Addr) (c : Nat) => ts_q (cap := c) n (row_none w a) (by omega) (by omega)
    rw [(tsV_no he4).1, (tsV_no he4).2] at hq
    by_cases h0 : p = 0
    · subst h0
      cases a with
      | none =>
        have := h.nil rfl
        subst this
        exact sg_nil_bad h n _ he4 (hq none 0)
      | some ad => exact sg_zero_bad h n _ he4 (hq (some ad) cap)
    · obtain ⟨b, o, rfl, hlt, hc⟩ := h.row.2.2 (by omega)
      by_cases hcp : cap = p
      · subst hcp
        exact sg_full_bad h n _ he4 (hq _ _)
      · exact sg_at_bad h (by omega) n _ he4 (hq _ _)

theorem un_any {N len cap p k : Nat} {a : Option Addr} {zs : List Int} {w : World} (h : Rd w N a len cap zs p k 0) :
    Calls Tryd.prog 66 #[.pointer (some ⟨N, 0, none⟩)] w fun e w' => e = .returned (.int .u32 (pU zs p 4294967295).v) ∧ Rd w' N a len cap zs (pU zs p 4294967295).at_ k (pU zs p 4294967295).e ∧ Tn N w w' := by
  have hu := ut_any h 4294967295
  generalize (pU zs p 4294967295).v = v at *
  have HU := hide hu; clear hu h
  go_enter Tryd.func66, Tryd.ntmps66
  go_wp2_with fail
  refine (unhide HU).mono ?_
  rintro e w1 ⟨rfl, hb⟩
  have HB := hide hb; clear hb
  go_wp2
  go_ret
  exact ⟨rfl, unhide HB⟩
theorem un_err {N len cap p k : Nat} {a : Option Addr} {zs : List Int} {er : Int} {w : World} (h : Rd w N a len cap zs p k er) (he : ¬ er = 0) :
    Calls Tryd.prog 66 #[.pointer (some ⟨N, 0, none⟩)] w fun e w' => e = .returned (.int .u32 0) ∧ Rd w' N a len cap zs p k er ∧ Tn N w w' := by
  have hu := ut_err h he 4294967295
  have HU := hide hu; clear hu h
  go_enter Tryd.func66, Tryd.ntmps66
  go_wp2_with fail
  refine (unhide HU).mono ?_
  rintro e w1 ⟨rfl, hb⟩
  have HB := hide hb; clear hb
  go_wp2
  go_ret
  exact ⟨rfl, unhide HB⟩
theorem kd_any {N len cap p k : Nat} {a : Option Addr} {zs : List Int} {w : World} (h : Rd w N a len cap zs p k 0) :
    Calls Tryd.prog 69 #[.pointer (some ⟨N, 0, none⟩)] w fun e w' => e = .returned (.int .u8 (kV (pB zs p jK).v)) ∧ Rd w' N a len cap zs (pB zs p jK).at_ k (pB zs p jK).e ∧ Tn N w w' := by
  have hu := obK_any h
  generalize (pB zs p jK).v = v at *
  have HU := hide hu; clear hu h
  by_cases h64 : v = 64
  · subst h64
    go_enter Tryd.func69, Tryd.ntmps69
    go_wp2_with fail
    refine (unhide HU).mono ?_
    rintro e w1 ⟨rfl, hb⟩
    have HB := hide hb; clear hb
    go_wp2
    go_ret
    exact ⟨rfl, unhide HB⟩
  · have t : (v == 64) = false := by simpa using h64
    rw [show kV v = v by simp [kV, h64]]
    clear h64
    go_enter Tryd.func69, Tryd.ntmps69
    go_wp2_with fail
    refine (unhide HU).mono ?_
    rintro e w1 ⟨rfl, hb⟩
    have HB := hide hb; clear hb
    go_wp2
    go_ret
    exact ⟨rfl, unhide HB⟩
end Ex
end Go.Proofs.YtjhmglefejclpaaDoor
