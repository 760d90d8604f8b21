/- Lines: how many there are, how many begin with two blanks. -/
import Derived.Test.YtlihhncloanbhaaDoorVcL
namespace Go.Proofs.YtlihhncloanbhaaDoor
open Go.RowKit
namespace Vc
set_option linter.unusedVariables false
set_option linter.unusedSimpArgs false

/-- how many begin with two blanks; st: a line begins here -/
def inB : Bool → List UInt8 → Nat
  | _, [] => 0
  | st, x :: r => (if st && (x == 32 && r.head? == some 32) then 1 else 0) + inB (x == 10) r
def No (l : List UInt8) : Prop := ∀ x ∈ l, x ≠ 10
theorem No.app {a b : List UInt8} (ha : No a) (hb : No b) : No (a ++ b) := fun x hx => (List.mem_append.1 hx).elim (ha x) (hb x)
theorem No.lit {a : List UInt8} (h : a.all (fun x => !(x == 10)) = true) : No a := fun x hx e => by
  have := List.all_eq_true.1 h x hx; rw [e] at this; simp at this
theorem No.flat {α : Type} {f : α → List UInt8} (h : ∀ a, No (f a)) : ∀ l : List α, No (l.flatMap f) := fun l x hx => by
  obtain ⟨a, _, h2⟩ := List.mem_flatMap.1 hx; exact h a x h2
theorem dd_no : ∀ u : Nat, No (Lib.decDigits u) := by
  intro u
  induction u using Nat.strongRecOn with
  | _ u ih =>
    have one : ∀ k, k < 10 → (UInt8.ofNat (48 + k)) ≠ 10 := by decide
    by_cases h : u < 10
    · rw [Lib.decDigits, dif_pos h]
      intro x hx
      rw [List.mem_singleton] at hx; rw [hx]; exact one u h
    · rw [Lib.decDigits, dif_neg h]
      refine (ih (u / 10) (by omega)).app fun x hx => ?_
      rw [List.mem_singleton] at hx; rw [hx]; exact one _ (by omega)
theorem dec_no (n : Int) : No (dec n) := by
  unfold dec Lib.itoa
  split
  · intro x hx
    rcases List.mem_cons.1 hx with rfl | hx
    · decide
    · exact dd_no _ x hx
  · exact dd_no _
set_option maxRecDepth 100000 in
theorem nam_no_all : ((List.range 256).all fun n => (nam n).all (fun x => !(x == 10))) = true := by kernel_rfl
theorem nam_no (n : Nat) (hn : n < 256) : No (nam n) := No.lit (List.all_eq_true.1 nam_no_all n (List.mem_range.2 hn))
theorem no_count {l : List UInt8} (h : No l) : l.count 10 = 0 := List.count_eq_zero.2 fun hm => h 10 hm rfl
theorem inB_false : ∀ {b : List UInt8} (r : List UInt8), No b → inB false (b ++ 10 :: r) = inB true r
  | [], r, _ => by simp [inB]
  | x :: b, r, h => by
    have hx : (x == 10) = false := by simpa using h x (by simp)
    rw [List.cons_append, inB, hx, inB_false r fun y hy => h y (by simp [hy])]; simp
/-- one line -/
theorem line_one (b : List UInt8) (r : List UInt8) (h : No b) : (b ++ [10] ++ r).count 10 = 1 + r.count 10 ∧ inB true (b ++ [10] ++ r) = (if b.take 2 = [32, 32] then 1 else 0) + inB true r := by
  refine ⟨by rw [List.count_append, List.count_append, no_count h]; simp, ?_⟩
  rw [List.append_assoc, List.singleton_append]
  match b, h with
  | [], _ => simp [inB]
  | [x], h =>
    have hx : (x == 10) = false := by simpa using h x (by simp)
    simp [inB, hx]
  | x :: y :: t, h =>
    have hx : (x == 10) = false := by simpa using h x (by simp)
    have hy : (y == 10) = false := by simpa using h y (by simp)
    rw [List.cons_append, inB, hx, List.cons_append, inB, hy, inB_false r fun z hz => h z (by simp [hz])]
    simp only [Bool.true_and, List.head?_cons, Bool.false_and, Bool.false_eq_true, if_false, Nat.zero_add, List.take_succ_cons, List.take_zero, Nat.add_right_cancel_iff]
    by_cases e1 : x = 32
    · by_cases e2 : y = 32
      · subst e1; subst e2; simp
      · simp [e1, e2]
    · simp [e1]
theorem first_lines (c : Co) (r : List UInt8) : (first c ++ r).count 10 = 1 + r.count 10 ∧ inB true (first c ++ r) = inB true r := by
  have h : No ([114, 101, 103, 115, 32] ++ dec c.re ++ [32, 112, 97, 114, 97, 109, 115, 32] ++ dec c.pa ++ (if c.rs then [32, 114, 101, 115, 117, 108, 116] else [])) := by
    refine ((((No.lit (by decide)).app (dec_no _)).app (No.lit (by decide))).app (dec_no _)).app ?_
    split
    · exact No.lit (by decide)
    · intro x hx; simp at hx
  have := line_one _ r h
  unfold first
  refine ⟨this.1, this.2.trans ?_⟩
  simp
theorem hd_lines (i d : Int) (r : List UInt8) : (hdB i d ++ r).count 10 = 1 + r.count 10 ∧ inB true (hdB i d ++ r) = inB true r := by
  have h : No ([98, 108, 111, 99, 107, 32] ++ dec i ++ [32, 100, 101, 112, 116, 104, 32] ++ dec d) := (((No.lit (by decide)).app (dec_no _)).app (No.lit (by decide))).app (dec_no _)
  have := line_one _ r h
  unfold hdB
  refine ⟨this.1, this.2.trans ?_⟩
  simp
theorem line_lines (x : In) (hx : x.op < 256) (next : List Int) (r : List UInt8) : (line x next ++ r).count 10 = 1 + r.count 10 ∧ inB true (line x next ++ r) = 1 + inB true r := by
  have h : No ([32, 32] ++ pGiv x.dst ++ nam x.op ++ pSrc x.src ++ pNum x.op x.n ++ pOf x.op x.of ++ pNext x.op next) := by
    refine ((((((No.lit (by decide)).app ?_).app (nam_no _ hx)).app ?_).app ?_).app ?_).app ?_
    · unfold pGiv; split
      · exact ((No.lit (by decide)).app (dec_no _)).app (No.lit (by decide))
      · intro x hx; simp at hx
    · exact No.flat (fun a => (No.lit (by decide)).app (dec_no _)) _
    · unfold pNum; split
      · exact (No.lit (by decide)).app (dec_no _)
      · intro x hx; simp at hx
    · unfold pOf; split
      · exact (No.lit (by decide)).app (dec_no _)
      · intro x hx; simp at hx
    · unfold pNext; split
      · exact (No.lit (by decide)).app (No.flat (fun a => (No.lit (by decide)).app (dec_no _)) _)
      · intro x hx; simp at hx
  have := line_one _ r h
  unfold line
  refine ⟨this.1, this.2.trans ?_⟩
  simp
theorem ins_lines (next : List Int) (r : List UInt8) : ∀ (l : List In), (∀ x ∈ l, x.op < 256) → (insT l next ++ r).count 10 = l.length + r.count 10 ∧ inB true (insT l next ++ r) = l.length + inB true r
  | [], _ => by simp [insT]
  | x :: l, h => by
    have h1 := ins_lines next r l fun y hy => h y (by simp [hy])
    have h2 := line_lines x (h x (by simp)) next (insT l next ++ r)
    have e : insT (x :: l) next ++ r = line x next ++ (insT l next ++ r) := by simp [insT]
    rw [e, h2.1, h2.2, h1.1, h1.2, List.length_cons]; omega
theorem blk_lines : ∀ (l : List Bl) (i : Nat), (∀ b ∈ l, ∀ x ∈ b.ins, x.op < 256) → (txtB i l).count 10 = l.length + siz l ∧ inB true (txtB i l) = siz l
  | [], i, _ => by simp [txtB, siz, inB]
  | b :: l, i, h => by
    have h1 := blk_lines l (i + 1) fun y hy => h y (by simp [hy])
    have h2 := ins_lines b.next (txtB (i + 1) l) b.ins (h b (by simp))
    have h3 := hd_lines i b.dep (insT b.ins b.next ++ txtB (i + 1) l)
    have e : txtB i (b :: l) = hdB i b.dep ++ (insT b.ins b.next ++ txtB (i + 1) l) := by rw [txtB, List.append_assoc]
    have es : siz (b :: l) = b.ins.length + siz l := by simp [siz]
    rw [e, h3.1, h3.2, h2.1, h2.2, h1.1, h1.2, es, List.length_cons]; omega
theorem txt_lines (c : Co) (h : ∀ b ∈ c.bl, ∀ x ∈ b.ins, x.op < 256) : (txt c).count 10 = 1 + c.bl.length + siz c.bl ∧ inB true (txt c) = siz c.bl := by
  have h1 := blk_lines c.bl 0 h
  have h2 := first_lines c (txtB 0 c.bl)
  unfold txt
  rw [h2.1, h2.2, h1.1, h1.2]; omega
/-- as a loop goes on -/
theorem lines_step {T : List UInt8} {i : Nat} {x : UInt8} (h : T[i]? = some x) : T.drop i = x :: T.drop (i + 1) := by
  have hi := (List.getElem?_eq_some_iff.1 h).1
  rw [List.drop_eq_getElem_cons hi, (List.getElem?_eq_some_iff.1 h).2]
end Vc
end Go.Proofs.YtlihhncloanbhaaDoor
