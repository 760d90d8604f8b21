/- LChk: what follows, part by part: each part tells what it holds. -/
import Derived.Test.YtgelkfmdkmopbaaDoorVcL
import Derived.Test.YtgelkfmdkmopbaaDoorVcZd
import Derived.Test.YtgelkfmdkmopbaaDoorVcP
import Derived.Test.YtgelkfmdkmopbaaDoorVcR
import Derived.Test.YtgelkfmdkmopbaaDoorVcN
import Derived.Test.YtgelkfmdkmopbaaDoorNum
import Derived.Test.YtgelkfmdkmopbaaDoorVcA
import Derived.Test.YtgelkfmdkmopbaaDoorLTx
import Derived.Deep.RegionHeld3
import Derived.Deep.DeepCutAuto
import Derived.Test.YtgelkfmdkmopbaaDoorRows
import Derived.OpenShut
import Derived.ShutString
import Derived.ProofKit
import Derived.Lib.SmallJoins
import Derived.Deep.DeepHandedRow
import Derived.Test.YtgelkfmdkmopbaaDoorOpI
import Derived.Test.YtgelkfmdkmopbaaDoorVcH
import Derived.Lib.LaidTab
import Derived.Stop.LaidErr
import Derived.LaidHandle
import Derived.ChangeOld
import Derived.ChangeSame
import Derived.ChangeVars
import Derived.JoinedOf
import Derived.RowKit
import Derived.RowKitTokens
import Derived.LaidLaws
import Derived.Stop.Joined
import Derived.Test.YtgelkfmdkmopbaaDoorTie
import Derived.Test.YtgelkfmdkmopbaaDoorCards
import Derived.WalkKit
import Derived.Below

/- Lines: how many there are, how many begin with two blanks. -/
namespace Go.Proofs.YtgelkfmdkmopbaaDoor
open Go.RowKit
namespace Vc
set_option linter.unusedVariables false
set_option linter.unusedSimpArgs false

/-- how many begin with two blanks; st: a line begins here -/
def inB : Bool → List UInt8 → Nat
  | _, [] => 0
  | st, x :: r => (if st && (x == 32 && r.head? == some 32) then 1 else 0) + inB (x == 10) r
def No (l : List UInt8) : Prop := ∀ x ∈ l, x ≠ 10
theorem No.app {a b : List UInt8} (ha : No a) (hb : No b) : No (a ++ b) := fun x hx => (List.mem_append.1 hx).elim (ha x) (hb x)
theorem No.lit {a : List UInt8} (h : a.all (fun x => !(x == 10)) = true) : No a := fun x hx e => by
  have := List.all_eq_true.1 h x hx; rw [e] at this; simp at this
theorem No.flat {α : Type} {f : α → List UInt8} (h : ∀ a, No (f a)) : ∀ l : List α, No (l.flatMap f) := fun l x hx => by
  obtain ⟨a, _, h2⟩ := List.mem_flatMap.1 hx; exact h a x h2
theorem dd_no : ∀ u : Nat, No (Lib.decDigits u) := by
  intro u
  induction u using Nat.strongRecOn with
  | _ u ih =>
    have one : ∀ k, k < 10 → (UInt8.ofNat (48 + k)) ≠ 10 := by decide
    by_cases h : u < 10
    · rw [Lib.decDigits, dif_pos h]
      intro x hx
      rw [List.mem_singleton] at hx; rw [hx]; exact one u h
    · rw [Lib.decDigits, dif_neg h]
      refine (ih (u / 10) (by omega)).app fun x hx => ?_
      rw [List.mem_singleton] at hx; rw [hx]; exact one _ (by omega)
theorem dec_no (n : Int) : No (dec n) := by
  unfold dec Lib.itoa
  split
  · intro x hx
    rcases List.mem_cons.1 hx with rfl | hx
    · decide
    · exact dd_no _ x hx
  · exact dd_no _
set_option maxRecDepth 100000 in
theorem nam_no_all : ((List.range 256).all fun n => (nam n).all (fun x => !(x == 10))) = true := by kernel_rfl
theorem nam_no (n : Nat) (hn : n < 256) : No (nam n) := No.lit (List.all_eq_true.1 nam_no_all n (List.mem_range.2 hn))
theorem no_count {l : List UInt8} (h : No l) : l.count 10 = 0 := List.count_eq_zero.2 fun hm => h 10 hm rfl
theorem inB_false : ∀ {b : List UInt8} (r : List UInt8), No b → inB false (b ++ 10 :: r) = inB true r
  | [], r, _ => by simp [inB]
  | x :: b, r, h => by
    have hx : (x == 10) = false := by simpa using h x (by simp)
    rw [List.cons_append, inB, hx, inB_false r fun y hy => h y (by simp [hy])]; simp
/-- one line -/
theorem line_one (b : List UInt8) (r : List UInt8) (h : No b) : (b ++ [10] ++ r).count 10 = 1 + r.count 10 ∧ inB true (b ++ [10] ++ r) = (if b.take 2 = [32, 32] then 1 else 0) + inB true r := by
  refine ⟨by rw [List.count_append, List.count_append, no_count h]; simp, ?_⟩
  rw [List.append_assoc, List.singleton_append]
  match b, h with
  | [], _ => simp [inB]
  | [x], h =>
    have hx : (x == 10) = false := by simpa using h x (by simp)
    simp [inB, hx]
  | x :: y :: t, h =>
    have hx : (x == 10) = false := by simpa using h x (by simp)
    have hy : (y == 10) = false := by simpa using h y (by simp)
    rw [List.cons_append, inB, hx, List.cons_append, inB, hy, inB_false r fun z hz => h z (by simp [hz])]
    simp only [Bool.true_and, List.head?_cons, Bool.false_and, Bool.false_eq_true, if_false, Nat.zero_add, List.take_succ_cons, List.take_zero, Nat.add_right_cancel_iff]
    by_cases e1 : x = 32
    · by_cases e2 : y = 32
      · subst e1; subst e2; simp
      · simp [e1, e2]
    · simp [e1]
theorem first_lines (c : Co) (r : List UInt8) : (first c ++ r).count 10 = 1 + r.count 10 ∧ inB true (first c ++ r) = inB true r := by
  have h : No ([114, 101, 103, 115, 32] ++ dec c.re ++ [32, 112, 97, 114, 97, 109, 115, 32] ++ dec c.pa ++ (if c.rs then [32, 114, 101, 115, 117, 108, 116] else [])) := by
    refine ((((No.lit (by decide)).app (dec_no _)).app (No.lit (by decide))).app (dec_no _)).app ?_
    split
    · exact No.lit (by decide)
    · intro x hx; simp at hx
  have := line_one _ r h
  unfold first
  refine ⟨this.1, this.2.trans ?_⟩
  simp
theorem hd_lines (i d : Int) (r : List UInt8) : (hdB i d ++ r).count 10 = 1 + r.count 10 ∧ inB true (hdB i d ++ r) = inB true r := by
  have h : No ([98, 108, 111, 99, 107, 32] ++ dec i ++ [32, 100, 101, 112, 116, 104, 32] ++ dec d) := (((No.lit (by decide)).app (dec_no _)).app (No.lit (by decide))).app (dec_no _)
  have := line_one _ r h
  unfold hdB
  refine ⟨this.1, this.2.trans ?_⟩
  simp
theorem line_lines (x : In) (hx : x.op < 256) (next : List Int) (r : List UInt8) : (line x next ++ r).count 10 = 1 + r.count 10 ∧ inB true (line x next ++ r) = 1 + inB true r := by
  have h : No ([32, 32] ++ pGiv x.dst ++ nam x.op ++ pSrc x.src ++ pNum x.op x.n ++ pOf x.op x.of ++ pNext x.op next) := by
    refine ((((((No.lit (by decide)).app ?_).app (nam_no _ hx)).app ?_).app ?_).app ?_).app ?_
    · unfold pGiv; split
      · exact ((No.lit (by decide)).app (dec_no _)).app (No.lit (by decide))
      · intro x hx; simp at hx
    · exact No.flat (fun a => (No.lit (by decide)).app (dec_no _)) _
    · unfold pNum; split
      · exact (No.lit (by decide)).app (dec_no _)
      · intro x hx; simp at hx
    · unfold pOf; split
      · exact (No.lit (by decide)).app (dec_no _)
      · intro x hx; simp at hx
    · unfold pNext; split
      · exact (No.lit (by decide)).app (No.flat (fun a => (No.lit (by decide)).app (dec_no _)) _)
      · intro x hx; simp at hx
  have := line_one _ r h
  unfold line
  refine ⟨this.1, this.2.trans ?_⟩
  simp
theorem ins_lines (next : List Int) (r : List UInt8) : ∀ (l : List In), (∀ x ∈ l, x.op < 256) → (insT l next ++ r).count 10 = l.length + r.count 10 ∧ inB true (insT l next ++ r) = l.length + inB true r
  | [], _ => by simp [insT]
  | x :: l, h => by
    have h1 := ins_lines next r l fun y hy => h y (by simp [hy])
    have h2 := line_lines x (h x (by simp)) next (insT l next ++ r)
    have e : insT (x :: l) next ++ r = line x next ++ (insT l next ++ r) := by simp [insT]
    rw [e, h2.1, h2.2, h1.1, h1.2, List.length_cons]; omega
theorem blk_lines : ∀ (l : List Bl) (i : Nat), (∀ b ∈ l, ∀ x ∈ b.ins, x.op < 256) → (txtB i l).count 10 = l.length + siz l ∧ inB true (txtB i l) = siz l
  | [], i, _ => by simp [txtB, siz, inB]
  | b :: l, i, h => by
    have h1 := blk_lines l (i + 1) fun y hy => h y (by simp [hy])
    have h2 := ins_lines b.next (txtB (i + 1) l) b.ins (h b (by simp))
    have h3 := hd_lines i b.dep (insT b.ins b.next ++ txtB (i + 1) l)
    have e : txtB i (b :: l) = hdB i b.dep ++ (insT b.ins b.next ++ txtB (i + 1) l) := by rw [txtB, List.append_assoc]
    have es : siz (b :: l) = b.ins.length + siz l := by simp [siz]
    rw [e, h3.1, h3.2, h2.1, h2.2, h1.1, h1.2, es, List.length_cons]; omega
theorem txt_lines (c : Co) (h : ∀ b ∈ c.bl, ∀ x ∈ b.ins, x.op < 256) : (txt c).count 10 = 1 + c.bl.length + siz c.bl ∧ inB true (txt c) = siz c.bl := by
  have h1 := blk_lines c.bl 0 h
  have h2 := first_lines c (txtB 0 c.bl)
  unfold txt
  rw [h2.1, h2.2, h1.1, h1.2]; omega
/-- as a loop goes on -/
theorem lines_step {T : List UInt8} {i : Nat} {x : UInt8} (h : T[i]? = some x) : T.drop i = x :: T.drop (i + 1) := by
  have hi := (List.getElem?_eq_some_iff.1 h).1
  rw [List.drop_eq_getElem_cons hi, (List.getElem?_eq_some_iff.1 h).2]
end Vc
end Go.Proofs.YtgelkfmdkmopbaaDoor

/- VcodeLines' walk. By mklines.py. -/
namespace Go.Proofs.YtgelkfmdkmopbaaDoor
open Go.RowKit
namespace Vc
set_option linter.unusedVariables false
set_option linter.unusedSimpArgs false

theorem bls_shape2 {w : World} {g : Nat → Prop} {l : List Bl} {v : Value} (h : Bls w g l v) : ∃ a cp, v = .slice a l.length cp := by obtain ⟨a, cp, e, _⟩ := h; exact ⟨a, cp, e⟩
theorem flat_len {α : Type} {f : α → List UInt8} {M : Nat} : ∀ {l : List α}, (∀ x ∈ l, (f x).length ≤ M) → (l.flatMap f).length ≤ l.length * M
  | [], _ => by simp
  | x :: l, h => by
    have h1 := h x (by simp)
    have h2 := flat_len (l := l) fun y hy => h y (by simp [hy])
    rw [List.flatMap_cons, List.length_append, List.length_cons, Nat.add_mul]; omega
set_option maxRecDepth 100000 in
theorem nam_len_all : ((List.range 256).all fun n => decide ((nam n).length ≤ 100)) = true := by kernel_rfl
theorem line_len (x : In) (hx : WfI x) (next : List Int) (hn : ∀ z ∈ next, i64 z) : (line x next).length ≤ 300 + 23 * x.src.length + 22 * next.length := by
  have h1 : (pGiv x.dst).length ≤ 25 := by
    unfold pGiv; split
    · have := dec_len _ hx.dst; simp; omega
    · simp
  have h2 : (nam x.op).length ≤ 100 := by have := List.all_eq_true.1 nam_len_all x.op (List.mem_range.2 hx.op); simpa using this
  have h3 : (pSrc x.src).length ≤ x.src.length * 23 := flat_len fun z hz => by have := dec_len _ (hx.src z hz); simp; omega
  have h4 : (pNum x.op x.n).length ≤ 22 := by
    unfold pNum; split
    · have := dec_len _ hx.n; simp; omega
    · simp
  have h5 : (pOf x.op x.of).length ≤ 23 := by
    unfold pOf; split
    · have := dec_len x.of ⟨by have := hx.of0; omega, by have := hx.of1; omega⟩; simp; omega
    · simp
  have h6 : (pNext x.op next).length ≤ 3 + next.length * 22 := by
    unfold pNext; split
    · have : (pTo next).length ≤ next.length * 22 := flat_len fun z hz => by have := dec_len _ (hn z hz); simp; omega
      rw [List.length_append]; simp; omega
    · simp
  unfold line
  simp only [List.length_append, List.length_cons, List.length_nil]
  omega
theorem txtB_len {K : Nat} : ∀ (l : List Bl) (i : Nat), (∀ b ∈ l, i64 b.dep ∧ (insT b.ins b.next).length ≤ K) → i + l.length ≤ 4611686018427387904 → (txtB i l).length ≤ l.length * (100 + K)
  | [], i, _, _ => by simp [txtB]
  | b :: l, i, h, hi => by
    obtain ⟨h1, h2⟩ := h b (by simp)
    rw [List.length_cons] at hi
    have h3 := txtB_len (K := K) l (i + 1) (fun y hy => h y (by simp [hy])) (by omega)
    have h4 : (hdB (i : Int) b.dep).length ≤ 100 := by
      have := dec_len (i : Int) ⟨by omega, by omega⟩; have := dec_len _ h1; simp [hdB]; omega
    rw [txtB, List.length_append, List.length_append, List.length_cons, Nat.add_mul]; omega
theorem txt_len (c : Co) (hc : WfC c) (h1 : c.bl.length ≤ 200) (h2 : tot c.bl ≤ 1500) : (txt c).length ≤ 1099511627776 := by
  have hf : (first c).length ≤ 100 := by
    have := dec_len _ hc.pa; have := dec_len _ hc.re
    unfold first
    cases c.rs <;> simp <;> omega
  have hb : (txtB 0 c.bl).length ≤ c.bl.length * (100 + 101700000) := by
    refine txtB_len c.bl 0 (fun b hb => ⟨(hc.bl b hb).dep, ?_⟩) (by omega)
    have h3 : b.next.length + totI b.ins ≤ tot c.bl := le_sum (fun b : Bl => b.next.length + totI b.ins) hb
    have h4 := len_totI b.ins
    have h5 : (insT b.ins b.next).length ≤ b.ins.length * 67800 := flat_len fun x hx => by
      have h6 := line_len x ((hc.bl b hb).ins x hx) b.next (hc.bl b hb).next
      have h7 : 1 + x.src.length ≤ totI b.ins := le_sum (fun x : In => 1 + x.src.length) hx
      omega
    omega
  unfold txt
  rw [List.length_append]; omega
theorem lines_next {T : List UInt8} {i m k C D : Nat} {x : UInt8} {fl : Bool} (hx : T[i]? = some x) (h1 : m + (T.drop i).count 10 = C) (h2 : k + inB fl (T.drop i) = D) :
    (m + (if x = 10 then 1 else 0)) + (T.drop (i + 1)).count 10 = C ∧ (k + (if fl && (x == 32 && T[i + 1]? == some 32) then 1 else 0)) + inB (decide (i + 1 = 0) || T[i + 1 - 1]? == some 10) (T.drop (i + 1)) = D := by
  have hd := lines_step hx
  rw [hd] at h1 h2
  have hf : (decide (i + 1 = 0) || T[i + 1 - 1]? == some 10) = (x == 10) := by rw [Nat.add_sub_cancel, hx]; simp
  have hh : (T.drop (i + 1)).head? = T[i + 1]? := by rw [List.head?_drop]
  rw [inB, hh] at h2
  rw [hf]
  refine ⟨?_, by omega⟩
  rw [List.count_cons] at h1
  by_cases e : x = 10
  · subst e; simp at h1 ⊢; omega
  · simp [e] at h1 ⊢; omega
theorem str_at {T : List UInt8} {i : Nat} {S : ByteArray} (h : str T = S) (hi : i < S.size) : T[i]? = some S[i] := by
  subst h
  have hi2 : i < T.length := hi
  rw [List.getElem?_eq_getElem hi2]; rfl
theorem ne10 {x : UInt8} (h : ¬ x = 10) : ((x.toNat : Int) == 10) = false := by
  simp only [beq_eq_false_iff_ne, ne_eq]
  intro e
  have e2 : x.toNat = (10 : UInt8).toNat := by show x.toNat = 10; omega
  exact h (UInt8.toNat_inj.1 e2)
theorem ne32 {x : UInt8} (h : ¬ x = 32) : ((x.toNat : Int) == 32) = false := by
  simp only [beq_eq_false_iff_ne, ne_eq]
  intro e
  have e2 : x.toNat = (32 : UInt8).toNat := by show x.toNat = 32; omega
  exact h (UInt8.toNat_inj.1 e2)
theorem siz_tot (l : List Bl) : siz l ≤ tot l := by
  induction l with
  | nil => simp [siz, tot]
  | cons b l ih =>
    have h := len_totI b.ins
    unfold siz tot at *
    simp only [List.map_cons, List.sum_cons] at *
    omega

set_option maxRecDepth 100000 in
set_option maxHeartbeats 6400000 in
theorem lines_walk (c : Co) (hc0 : WfC0 c) (v : Value) (w : World) (hT : Fms w) (hN : Nms w) (hP : P10 w) (hEr : ErrT w) (hv : Bls w (fun k => k < w.heap.size) c.bl v) :
    Calls Tryd.prog 6 #[.agg #[.int .i64 c.pa, .int .i64 c.re, .bool c.rs, v]] w fun e w' => e = .returned (.bool true) ∧ Below w.heap.size w w' := by
  have hsure := fun W (h : Below w.heap.size w W) => sure_any W (TC.below hT h) (hN.below h) (hP.below h)
  have hmv : ∀ W, Below w.heap.size w W → Bls W (fun k => k < w.heap.size) c.bl v := fun W h => hv.moved (fun k _ hk => ⟨hk, h.block k hk⟩) h.size
  have hgive := fun (hc : WfC c) W (h : Below w.heap.size w W) => give_any c hc (fun k => k < w.heap.size) v W (hmv W h) (fun k hk => Nat.lt_of_lt_of_le hk h.size)
  have hheavy := fun W (h : Below w.heap.size w W) => heavy_any c.pa c.re c.rs c.bl hc0.bl (fun k => k < w.heap.size) v W (hmv W h) hc0.len
  have hmay := fun (hc : WfC c) (hz : siz c.bl ≤ 1099511627776) W (h : Below w.heap.size w W) => rmay_any c hc (fun k => k < w.heap.size) v W (hmv W h) hz
  have hsize := fun (hc : WfC c) (hz : siz c.bl ≤ 1099511627776) W (h : Below w.heap.size w W) => rsize_any c.pa c.re c.rs c.bl (fun k => k < w.heap.size) v W (hmv W h) hc.len hz
  have htext := fun (hc : WfC c) (hz : siz c.bl ≤ 1099511627776) (hl : (txt c).length ≤ 1099511627776) g va W (h : Below w.heap.size w W) (hb : Bls W g c.bl va) (hg : ∀ k, g k → k < W.heap.size) => text_any c hc g va W (TC.below hT h) (hN.below h) (hP.below h) hb hg hz hl
  have hnum := fun W (h : Below w.heap.size w W) => num_hit 2 W (hEr.below (Nat.le_refl _) h)
  have HSu := hide hsure; have HGi0 := hide hgive; have HHe := hide hheavy; have HMy0 := hide hmay; have HSz0 := hide hsize; have HTx0 := hide htext; have HNu := hide hnum; have HC0 := hide hc0; have HV := hide hv
  clear hsure hgive hheavy hmay hsize htext hnum hT hN hP hEr hmv
  obtain ⟨a, cp, rfl⟩ := bls_shape2 hv
  clear hv hc0
  have hb1 := one_alloc w (.cells #[.int .i64 c.pa, .int .i64 c.re, .bool c.rs, .slice a c.bl.length cp] 24)
  have r1 : (w.alloc (.cells #[.int .i64 c.pa, .int .i64 c.re, .bool c.rs, .slice a c.bl.length cp] 24)).heap[w.heap.size]? = some (.cells (cob c.pa c.re c.rs (.slice a c.bl.length cp)) 24 (0, 0)) := heap_alloc_new _ _
  have HB1 := hide hb1; have HR1 := hide r1
  clear hb1 r1
  go_enter Tryd.func6, Tryd.ntmps6
  go_upto_region 1 with fail
  generalize w.alloc (.cells #[.int .i64 c.pa, .int .i64 c.re, .bool c.rs, .slice a c.bl.length cp] 24) = W1 at *
  have hcl : ∀ wx, Below W1.heap.size W1 wx → (wx.cell? ⟨w.heap.size, 0, none⟩ = some (.int .i64 c.pa) ∧ wx.cell? ⟨w.heap.size, 1, none⟩ = some (.int .i64 c.re) ∧ wx.cell? ⟨w.heap.size, 2, none⟩ = some (.bool c.rs) ∧ wx.cell? ⟨w.heap.size, 3, none⟩ = some (.slice a c.bl.length cp) ∧ w.heap.size < wx.heap.size) ∧ Below w.heap.size w wx := by
    intro wx hb
    obtain ⟨x0, x1, x2, x3, _, xl⟩ := cob_cells ((hb.block _ (Array.getElem?_eq_some_iff.1 (unhide HR1)).1).trans (unhide HR1))
    exact ⟨⟨x0, x1, x2, x3, xl⟩, (unhide HB1).trans (hb.mono (unhide HB1).size)⟩
  have HCl := hide hcl
  obtain ⟨⟨x0, x1, x2, x3, xl⟩, _⟩ := hcl W1 (Below.refl _ _)
  clear hcl
  go_wp2_with fail
  refine (unhide HHe W1 (unhide HB1)).mono ?_
  rintro e w2 ⟨⟨hb, rfl, hhv⟩, hb2⟩
  have HHv := hide hhv; have HB2 := hide hb2
  clear hhv x0 x1 x2 x3 xl HHe
  obtain ⟨⟨x0, x1, x2, x3, xl⟩, hbe2⟩ := unhide HCl w2 hb2
  have HBe2 := hide hbe2
  clear hb2 hbe2
  cases hb with
  | true =>
    clear HHv
    go_wp2_with fail
    refine (unhide HSu w2 (unhide HBe2)).mono ?_
    rintro e w3 ⟨rfl, hb3⟩
    have HB3 := hide ((unhide HBe2).trans (hb3.mono (unhide HBe2).size))
    clear hb3
    go_wp2
    go_ret
    exact ⟨rfl, unhide HB3⟩
  | false =>
  have hh := unhide HHv rfl
  have HC := hide ((unhide HC0).up hh.1 hh.2)
  have hsz := siz_tot c.bl
  have HZ := hide (show siz c.bl ≤ 1099511627776 by have := hh.2; omega)
  have HZ2 := hide (show siz c.bl ≤ 1500 by have := hh.2; omega)
  have HTl := hide (txt_len c (unhide HC) hh.1 hh.2)
  have HLen := hide hh.1
  have HMy := hide (unhide HMy0 (unhide HC) (unhide HZ)); have HGi := hide (unhide HGi0 (unhide HC)); have HSz := hide (unhide HSz0 (unhide HC) (unhide HZ)); have HTx := hide (unhide HTx0 (unhide HC) (unhide HZ) (unhide HTl))
  clear hh hsz HHv HMy0 HGi0 HSz0 HTx0 HC0
  go_wp2_with fail
  refine (unhide HMy w2 (unhide HBe2)).mono ?_
  rintro e w3 ⟨rfl, hb3⟩
  have hb13 := (unhide HB2).trans (hb3.mono (unhide HB2).size)
  have HB3 := hide hb13
  clear x0 x1 x2 x3 xl hb3 HMy
  obtain ⟨⟨x0, x1, x2, x3, xl⟩, hbe3⟩ := unhide HCl w3 hb13
  have HBe3 := hide hbe3
  clear hb13 hbe3
  cases hck : chk c with
  | false =>
    clear hck
    go_wp2_with fail
    refine (unhide HSu w3 (unhide HBe3)).mono ?_
    rintro e w4 ⟨rfl, hb4⟩
    have HB4 := hide ((unhide HBe3).trans (hb4.mono (unhide HBe3).size))
    clear hb4
    go_wp2
    go_ret
    exact ⟨rfl, unhide HB4⟩
  | true =>
  have HCk := hide hck
  clear hck
  go_wp2_with fail
  refine (unhide HGi w3 (unhide HBe3)).mono ?_
  rintro e w4 ⟨va, rfl, hla, hb4⟩
  obtain ⟨aa, ca, rfl⟩ := bls_shape2 hla
  have hb14 := (unhide HB3).trans (hb4.mono (unhide HB3).size)
  have HB4 := hide hb14; have HLa := hide hla
  clear x0 x1 x2 x3 xl hb4 hla HGi
  obtain ⟨⟨x0, x1, x2, x3, xl⟩, hbe4⟩ := unhide HCl w4 hb14
  have HBe4 := hide hbe4
  clear hb14 hbe4
  go_wp2_with fail
  refine (unhide HTx _ _ w4 (unhide HBe4) (unhide HLa) (fun k hk => hk)).mono ?_
  rintro e w5 ⟨rfl, hb5⟩
  have hb15 := (unhide HB4).trans (hb5.mono (unhide HB4).size)
  have HB5 := hide hb15
  clear x0 x1 x2 x3 xl hb5 HTx HLa
  obtain ⟨⟨x0, x1, x2, x3, xl⟩, hbe5⟩ := unhide HCl w5 hb15
  have HBe5 := hide hbe5
  clear hb15 hbe5
  have hS : txS c = if (txt c).length ≤ 65536 then txt c else [] := by unfold txS; rw [unhide HCk]; rfl
  have hE : txE c = if (txt c).length ≤ 65536 then 0 else 2 := by unfold txE; rw [unhide HCk]; rfl
  rw [hS, hE]
  clear hS hE
  by_cases h6 : (txt c).length ≤ 65536
  · rw [if_pos h6, if_pos h6, errV_0]
    have htl := txt_lines c (fun b hb x hx => (((unhide HC).bl b hb).ins x hx).op)
    have HTL := hide htl; have H6 := hide h6
    clear htl h6 HTl
    generalize txt c = TT at *
    generalize hsT : str TT = S at *
    have hSz : S.size = TT.length := by rw [← hsT]; rfl
    have HST := hide hsT
    generalize htl2 : TT.length = tl at *
    have HTl2 := hide htl2
    have hSzz : (S.size : Int) = tl := by omega
    clear hsT htl2
    go_wp2_with fail
    go_loopw [5, 6, 7] (fun p q c wr => ∃ i m k : Nat, p = .int .i64 m ∧ q = .int .i64 k ∧ c = .int .i64 i ∧ (i : Int) ≤ tl ∧ (m : Int) ≤ i ∧ (k : Int) ≤ i ∧ m + (TT.drop i).count 10 = TT.count 10 ∧ k + inB (decide (i = 0) || TT[i - 1]? == some 10) (TT.drop i) = inB true TT ∧ wr = w5) (fun _ _ c _ => tl - (intOf c).toNat)
    case atStart => exact ⟨0, 0, 0, rfl, rfl, rfl, by omega, by omega, by omega, by simp, by simp, rfl⟩
    case round =>
      obtain ⟨i, m, k, rfl, rfl, rfl, hi, hm, hk, hc1, hc2, rfl⟩ := hrel
      have HC1 := hide hc1; have HC2 := hide hc2
      clear hc1 hc2
      by_cases hlt : (i : Int) < tl
      · have hlt2 : (i : Int) < (S.size : Int) := by omega
        have hiS : i < S.size := by omega
        have h6i : (tl : Int) ≤ 65536 := by have := unhide H6; omega
        have hx := str_at (unhide HST) hiS
        by_cases hi0 : i = 0
        · subst hi0
          by_cases e10 : S[0] = 10
          · have t10 : ((S[0].toNat : Int) == 10) = true := by rw [e10]; rfl
            by_cases hmo : ((0 : Nat) : Int) + 1 < tl
            · have hmS : 0 + 1 < S.size := by omega
              have hmo2 : (((0 : Nat) + 1 : Nat) : Int) < tl := by omega
              have hy := str_at (unhide HST) hmS
              have t32 : ((S[0].toNat : Int) == 32) = false := by rw [e10]; rfl
              have hnx := lines_next hx (unhide HC1) (unhide HC2)
              simp [id, e10, e10] at hnx
              have HNx := hide hnx
              clear hnx
              go_wp2
              go_roundw
              case rel => exact ⟨1, m + 1, k, by go_num, by go_num, by go_num, by omega, by omega, by omega, by have := (unhide HNx).1; (try simp); omega, by have := (unhide HNx).2; (try simp); omega, trivial⟩
              case measure => simp [intOf]; omega
            · have tmo : decide (((0 : Nat) : Int) + 1 < tl) = false := by simpa using hmo
              have hyn : TT[0 + 1]? = none := List.getElem?_eq_none (by have := unhide HTl2; omega)
              have hnx := lines_next hx (unhide HC1) (unhide HC2)
              simp [id, e10, hyn] at hnx
              have HNx := hide hnx
              clear hnx
              go_wp2
              go_roundw
              case rel => exact ⟨1, m + 1, k, by go_num, by go_num, by go_num, by omega, by omega, by omega, by have := (unhide HNx).1; (try simp); omega, by have := (unhide HNx).2; (try simp); omega, trivial⟩
              case measure => simp [intOf]; omega
          · have t10 : ((S[0].toNat : Int) == 10) = false := ne10 e10
            by_cases hmo : ((0 : Nat) : Int) + 1 < tl
            · have hmS : 0 + 1 < S.size := by omega
              have hmo2 : (((0 : Nat) + 1 : Nat) : Int) < tl := by omega
              have hy := str_at (unhide HST) hmS
              by_cases e32 : S[0] = 32
              · have t32 : ((S[0].toNat : Int) == 32) = true := by rw [e32]; rfl
                by_cases f32 : S[0 + 1] = 32
                · have u32 : ((S[0 + 1].toNat : Int) == 32) = true := by rw [f32]; rfl
                  have hnx := lines_next hx (unhide HC1) (unhide HC2)
                  simp [id, e10, e32, hy, f32] at hnx
                  have HNx := hide hnx
                  clear hnx
                  go_wp2
                  go_roundw
                  case rel => exact ⟨1, m, k + 1, by go_num, by go_num, by go_num, by omega, by omega, by omega, by have := (unhide HNx).1; (try simp); omega, by have := (unhide HNx).2; (try simp); omega, trivial⟩
                  case measure => simp [intOf]; omega
                · have u32 : ((S[0 + 1].toNat : Int) == 32) = false := ne32 f32
                  have hnx := lines_next hx (unhide HC1) (unhide HC2)
                  simp [id, e10, e32, hy, f32] at hnx
                  have HNx := hide hnx
                  clear hnx
                  go_wp2
                  go_roundw
                  case rel => exact ⟨1, m, k, by go_num, by go_num, by go_num, by omega, by omega, by omega, by have := (unhide HNx).1; (try simp); omega, by have := (unhide HNx).2; (try simp); omega, trivial⟩
                  case measure => simp [intOf]; omega
              · have t32 : ((S[0].toNat : Int) == 32) = false := ne32 e32
                have hnx := lines_next hx (unhide HC1) (unhide HC2)
                simp [id, e10, e32] at hnx
                have HNx := hide hnx
                clear hnx
                go_wp2
                go_roundw
                case rel => exact ⟨1, m, k, by go_num, by go_num, by go_num, by omega, by omega, by omega, by have := (unhide HNx).1; (try simp); omega, by have := (unhide HNx).2; (try simp); omega, trivial⟩
                case measure => simp [intOf]; omega
            · have tmo : decide (((0 : Nat) : Int) + 1 < tl) = false := by simpa using hmo
              have hyn : TT[0 + 1]? = none := List.getElem?_eq_none (by have := unhide HTl2; omega)
              have hnx := lines_next hx (unhide HC1) (unhide HC2)
              simp [id, e10, hyn] at hnx
              have HNx := hide hnx
              clear hnx
              go_wp2
              go_roundw
              case rel => exact ⟨1, m, k, by go_num, by go_num, by go_num, by omega, by omega, by omega, by have := (unhide HNx).1; (try simp); omega, by have := (unhide HNx).2; (try simp); omega, trivial⟩
              case measure => simp [intOf]; omega
        have ti0 : ((i : Int) == 0) = false := by simp; omega
        obtain ⟨j, rfl⟩ : ∃ j, i = j + 1 := ⟨i - 1, by omega⟩
        have hjS : j < S.size := by omega
        have wj : wrap64 (((j + 1 : Nat) : Int) - 1) = j := by have := unhide H6; unfold wrap64; omega
        have wj2 : ((j + 1 : Nat) : Int) - 1 = j := by omega
        have hp := str_at (unhide HST) hjS
        by_cases p10 : S[j] = 10
        · have tp10 : ((S[j].toNat : Int) == 10) = true := by rw [p10]; rfl
          by_cases e10 : S[j + 1] = 10
          · have t10 : ((S[j + 1].toNat : Int) == 10) = true := by rw [e10]; rfl
            by_cases hmo : ((j + 1 : Nat) : Int) + 1 < tl
            · have hmS : j + 1 + 1 < S.size := by omega
              have hmo2 : (((j + 1 : Nat) + 1 : Nat) : Int) < tl := by omega
              have hy := str_at (unhide HST) hmS
              have t32 : ((S[j + 1].toNat : Int) == 32) = false := by rw [e10]; rfl
              have hnx := lines_next hx (unhide HC1) (unhide HC2)
              simp [hp, p10, e10, e10] at hnx
              have HNx := hide hnx
              clear hnx
              go_wp2
              go_roundw
              case rel => exact ⟨j + 1 + 1, m + 1, k, by go_num, by go_num, by go_num, by omega, by omega, by omega, by have := (unhide HNx).1; (try simp); omega, by have := (unhide HNx).2; (try simp); omega, trivial⟩
              case measure => simp [intOf]; omega
            · have tmo : decide (((j + 1 : Nat) : Int) + 1 < tl) = false := by simpa using hmo
              have hyn : TT[j + 1 + 1]? = none := List.getElem?_eq_none (by have := unhide HTl2; omega)
              have hnx := lines_next hx (unhide HC1) (unhide HC2)
              simp [hp, p10, e10, hyn] at hnx
              have HNx := hide hnx
              clear hnx
              go_wp2
              go_roundw
              case rel => exact ⟨j + 1 + 1, m + 1, k, by go_num, by go_num, by go_num, by omega, by omega, by omega, by have := (unhide HNx).1; (try simp); omega, by have := (unhide HNx).2; (try simp); omega, trivial⟩
              case measure => simp [intOf]; omega
          · have t10 : ((S[j + 1].toNat : Int) == 10) = false := ne10 e10
            by_cases hmo : ((j + 1 : Nat) : Int) + 1 < tl
            · have hmS : j + 1 + 1 < S.size := by omega
              have hmo2 : (((j + 1 : Nat) + 1 : Nat) : Int) < tl := by omega
              have hy := str_at (unhide HST) hmS
              by_cases e32 : S[j + 1] = 32
              · have t32 : ((S[j + 1].toNat : Int) == 32) = true := by rw [e32]; rfl
                by_cases f32 : S[j + 1 + 1] = 32
                · have u32 : ((S[j + 1 + 1].toNat : Int) == 32) = true := by rw [f32]; rfl
                  have hnx := lines_next hx (unhide HC1) (unhide HC2)
                  simp [hp, p10, e10, e32, hy, f32] at hnx
                  have HNx := hide hnx
                  clear hnx
                  go_wp2
                  go_roundw
                  case rel => exact ⟨j + 1 + 1, m, k + 1, by go_num, by go_num, by go_num, by omega, by omega, by omega, by have := (unhide HNx).1; (try simp); omega, by have := (unhide HNx).2; (try simp); omega, trivial⟩
                  case measure => simp [intOf]; omega
                · have u32 : ((S[j + 1 + 1].toNat : Int) == 32) = false := ne32 f32
                  have hnx := lines_next hx (unhide HC1) (unhide HC2)
                  simp [hp, p10, e10, e32, hy, f32] at hnx
                  have HNx := hide hnx
                  clear hnx
                  go_wp2
                  go_roundw
                  case rel => exact ⟨j + 1 + 1, m, k, by go_num, by go_num, by go_num, by omega, by omega, by omega, by have := (unhide HNx).1; (try simp); omega, by have := (unhide HNx).2; (try simp); omega, trivial⟩
                  case measure => simp [intOf]; omega
              · have t32 : ((S[j + 1].toNat : Int) == 32) = false := ne32 e32
                have hnx := lines_next hx (unhide HC1) (unhide HC2)
                simp [hp, p10, e10, e32] at hnx
                have HNx := hide hnx
                clear hnx
                go_wp2
                go_roundw
                case rel => exact ⟨j + 1 + 1, m, k, by go_num, by go_num, by go_num, by omega, by omega, by omega, by have := (unhide HNx).1; (try simp); omega, by have := (unhide HNx).2; (try simp); omega, trivial⟩
                case measure => simp [intOf]; omega
            · have tmo : decide (((j + 1 : Nat) : Int) + 1 < tl) = false := by simpa using hmo
              have hyn : TT[j + 1 + 1]? = none := List.getElem?_eq_none (by have := unhide HTl2; omega)
              have hnx := lines_next hx (unhide HC1) (unhide HC2)
              simp [hp, p10, e10, hyn] at hnx
              have HNx := hide hnx
              clear hnx
              go_wp2
              go_roundw
              case rel => exact ⟨j + 1 + 1, m, k, by go_num, by go_num, by go_num, by omega, by omega, by omega, by have := (unhide HNx).1; (try simp); omega, by have := (unhide HNx).2; (try simp); omega, trivial⟩
              case measure => simp [intOf]; omega
        · have tp10 : ((S[j].toNat : Int) == 10) = false := ne10 p10
          by_cases e10 : S[j + 1] = 10
          · have t10 : ((S[j + 1].toNat : Int) == 10) = true := by rw [e10]; rfl
            have hnx := lines_next hx (unhide HC1) (unhide HC2)
            simp [hp, p10, e10] at hnx
            have HNx := hide hnx
            clear hnx
            go_wp2
            go_roundw
            case rel => exact ⟨j + 1 + 1, m + 1, k, by go_num, by go_num, by go_num, by omega, by omega, by omega, by have := (unhide HNx).1; (try simp); omega, by have := (unhide HNx).2; (try simp); omega, trivial⟩
            case measure => simp [intOf]; omega
          · have t10 : ((S[j + 1].toNat : Int) == 10) = false := ne10 e10
            have hnx := lines_next hx (unhide HC1) (unhide HC2)
            simp [hp, p10, e10] at hnx
            have HNx := hide hnx
            clear hnx
            go_wp2
            go_roundw
            case rel => exact ⟨j + 1 + 1, m, k, by go_num, by go_num, by go_num, by omega, by omega, by omega, by have := (unhide HNx).1; (try simp); omega, by have := (unhide HNx).2; (try simp); omega, trivial⟩
            case measure => simp [intOf]; omega
      · obtain rfl : tl = i := by omega
        have hd : TT.drop tl = [] := List.drop_eq_nil_of_le (by have := unhide HTl2; omega)
        have e1 := unhide HC1; have e2 := unhide HC2
        rw [hd] at e1 e2
        simp only [List.count_nil, inB, Nat.add_zero] at e1 e2
        have g1 : m = 1 + c.bl.length + siz c.bl := by rw [e1]; exact (unhide HTL).1
        have g2 : k = siz c.bl := by rw [e2]; exact (unhide HTL).2
        subst g1
        subst g2
        have hz2 : (siz c.bl : Int) ≤ 1500 := by have := unhide HZ2; omega
        have hl2 : (c.bl.length : Int) ≤ 200 := by have := unhide HLen; omega
        have HKK := hide (fun (W : World) (h : Below W1.heap.size W1 W) => (unhide HCl W h))
        have tS : decide ((tl : Int) < (S.size : Int)) = false := by simp; omega
        clear hd e1 e2 hi hm hk hlt HC1 HC2 HTL H6 HST HTl2 hSz
        generalize siz c.bl = sz at *
        generalize hnn : c.bl.length = n at *
        go_wp2_with fail
        have hb5d : Below W1.heap.size W1 wr.drew := (unhide HB5).trans ((Below.refl _ _).drew.mono (unhide HB5).size)
        have HB5d := hide hb5d
        have hk5 := (unhide HCl wr (unhide HB5)).1
        have a1 : IntKind.i64.wrap (1 + (n : Int)) = 1 + (n : Int) := by rw [IntKind.wrap_i64]; omega
        have a2 : IntKind.i64.wrap (1 + (n : Int) + (sz : Int)) = 1 + (n : Int) + (sz : Int) := by rw [IntKind.wrap_i64]; omega
        have HWd := hide (unhide HCl wr.drew hb5d)
        clear hb5d
        go_region_held3 (fun W => W.cell? ⟨w.heap.size, 0, none⟩ = some (.int .i64 c.pa) ∧ W.cell? ⟨w.heap.size, 1, none⟩ = some (.int .i64 c.re) ∧ W.cell? ⟨w.heap.size, 2, none⟩ = some (.bool c.rs) ∧ W.cell? ⟨w.heap.size, 3, none⟩ = some (.slice a n cp) ∧ w.heap.size < W.heap.size)
          (first | go_keep | exact hk5)
          (first
            | (go_at_call 12; refine (unhide HSz _ (unhide HWd).2).mono ?_; rintro e w11 ⟨rfl, hb11⟩; have HB5d := hide ((unhide HB5d).trans (hb11.mono (unhide HB5d).size)); have HWd := hide (unhide HCl w11 (unhide HB5d)); clear hb11; have hk5 := (unhide HWd).1)
            | (go_at_call 8; refine (unhide HSu _ (unhide HWd).2).mono ?_; rintro e w14 ⟨rfl, hb14⟩; have HB5d := hide ((unhide HB5d).trans (hb14.mono (unhide HB5d).size)); have HWd := hide (unhide HCl w14 (unhide HB5d)); clear hb14; have hk5 := (unhide HWd).1)
            | fail)
        all_goals
          rename_i hHeld
          clear hHeld hk5
          have HBF := hide (unhide HWd).2
          go_wp2
          go_ret
          exact ⟨rfl, unhide HBF⟩
  · rw [if_neg h6, if_neg h6, errV_2]
    clear h6 HTl
    generalize str [] = S at *
    go_wp2_with fail
    refine (unhide HNu w5 (unhide HBe5)).mono ?_
    rintro e w6 ⟨rfl, hb6⟩
    have HB6 := hide ((unhide HBe5).trans (hb6.mono (unhide HBe5).size))
    clear hb6
    go_wp2_with fail
    refine (unhide HSu w6 (unhide HB6)).mono ?_
    rintro e w7 ⟨rfl, hb7⟩
    have HB7 := hide ((unhide HB6).trans (hb7.mono (unhide HB6).size))
    clear hb7
    go_wp2
    go_ret
    exact ⟨rfl, unhide HB7⟩
end Vc
end Go.Proofs.YtgelkfmdkmopbaaDoor

/- vcode.Same: slices.Equal of numbers, sameIns, slices.EqualFunc, sameBlock. By mkvsame.py. -/
namespace Go.Proofs.YtgelkfmdkmopbaaDoor
open Go.RowKit
namespace Vc
set_option linter.unusedVariables false

theorem ls_ne {la lb : List Int} (j : Nat) (h : ¬ la.getD j 0 = lb.getD j 0) : (la == lb) = false := by
  rw [beq_eq_false_iff_ne]; rintro rfl; exact h rfl
theorem ls_eq {la lb : List Int} (hl : la.length = lb.length) (h : ∀ i, i < la.length → la.getD i 0 = lb.getD i 0) : (la == lb) = true := by
  rw [beq_iff_eq]
  refine List.ext_getElem hl fun j h1 h2 => ?_
  have := h j h1
  simpa [List.getD, List.getElem?_eq_getElem h1, List.getElem?_eq_getElem h2] using this
set_option maxRecDepth 100000 in
set_option maxHeartbeats 1000000 in
theorem eqi_any {g g2 : Nat → Prop} {va vb : Value} {la lb : List Int} {w : World} (ha : NumsL w g la va) (hb : NumsL w g2 lb vb) (h1 : la.length ≤ 1099511627776) (h2 : lb.length ≤ 1099511627776) :
    Calls Tryd.prog 47 #[va, vb] w fun e w' => e = .returned (.bool (la == lb)) ∧ Below w.heap.size w w' := by
  obtain ⟨a, ca, rfl, hca, _, hA⟩ := ha
  obtain ⟨b, cb, rfl, hcb, _, hB⟩ := hb
  by_cases hl : la.length = lb.length
  · rw [← hl] at hB hcb ⊢
    have heq := fun h => ls_eq hl h
    have HEq := hide heq; have HL := hide hl; clear heq hl h2
    by_cases h0 : 0 < la.length
    · obtain ⟨ba, oa, rfl, _, hla⟩ := hA h0
      obtain ⟨bb, ob, rfl, _, hlb⟩ := hB h0
      have HLa := hide hla; have HLb := hide hlb
      clear hA hB hla hlb
      have hne := fun j h => ls_ne (la := la) (lb := lb) j h
      have HNe := hide hne; clear hne
      unfold Nums at HLa HLb
      generalize hn : la.length = n at *
      have HN := hide hn; clear hn
      go_enter Tryd.func47, Tryd.ntmps47
      go_wp2_with fail
      go_loopw [13] (fun c wr => ∃ j : Nat, c = .int .i64 j ∧ (j : Int) ≤ n ∧ (∀ i, i < j → la.getD i 0 = lb.getD i 0) ∧ ∃ k, wr = w.drewN k) (fun c _ => n - (intOf c).toNat)
      case atStart => exact ⟨0, rfl, by omega, fun i hi => absurd hi (by omega), 0, rfl⟩
      case round =>
        obtain ⟨j, rfl, hj, hall, k, rfl⟩ := hrel
        have HAll := hide hall; clear hall
        by_cases hlt : (j : Int) < n
        · have c1 := unhide HLa j (by omega)
          have c2 := unhide HLb j (by have := unhide HN; have := unhide HL; omega)
          generalize hx : la.getD j 0 = x at *
          generalize hy : lb.getD j 0 = y at *
          have HX := hide hx; have HY := hide hy; clear hx hy hj
          by_cases he : x = y
          · subst he
            go_wp2_with fail
            go_quiet (fail)
            go_wp2
            go_roundw
            case rel => exact ⟨j + 1, by go_num, by omega, fun i hi => by
              by_cases e : i = j
              · subst e; rw [unhide HX, unhide HY]
              · exact unhide HAll i (by omega), _, rfl⟩
            case measure => simp [intOf]; omega
          · have t : (x != y) = true := by simpa using he
            have hf := unhide HNe j (by rw [unhide HX, unhide HY]; exact he)
            have HF := hide hf
            clear he hf
            go_wp2_with fail
            go_quiet (fail)
            go_wp2
            go_ret
            exact ⟨ret_bool (unhide HF).symm, ⟨rfl, rfl, rfl, Nat.le_refl _, fun _ _ => rfl⟩⟩
        · obtain rfl : j = n := by omega
          have hf := unhide HEq (unhide HAll)
          have HF := hide hf
          clear hf hj hlt
          go_wp2
          go_ret
          exact ⟨ret_bool (unhide HF).symm, ⟨rfl, rfl, rfl, Nat.le_refl _, fun _ _ => rfl⟩⟩
    · have hz : la.length = 0 := by omega
      have ht := unhide HEq (fun i hi => absurd hi (by omega))
      rw [ht, hz]
      clear ht HEq hA hB hcb hca h0 hz h1 HL
      go_enter Tryd.func47, Tryd.ntmps47
      go_wp2_with fail
      go_loopw [13] (fun c wr => c = .int .i64 0 ∧ wr = w) (fun c _ => 0)
      case atStart => exact ⟨rfl, rfl⟩
      case round =>
        obtain ⟨rfl, rfl⟩ := hrel
        go_wp2
        go_ret
        exact ⟨rfl, Below.refl _ _⟩
  · have hf : (la == lb) = false := by rw [beq_eq_false_iff_ne]; rintro rfl; exact hl rfl
    have t : ((la.length : Int) != (lb.length : Int)) = true := by simp; omega
    rw [hf]
    clear hf hl hA hB
    generalize la.length = n at *
    generalize lb.length = m at *
    go_enter Tryd.func47, Tryd.ntmps47
    go_wp2
    go_ret
    exact ⟨rfl, Below.refl _ _⟩

/-- the same, part by part -/
def eqL {α : Type} (f : α → α → Bool) : List α → List α → Bool
  | [], [] => true
  | x :: a, y :: b => f x y && eqL f a b
  | _, _ => false
theorem eqL_len {α : Type} {f : α → α → Bool} : ∀ {a b : List α}, ¬ a.length = b.length → eqL f a b = false
  | [], [], h => absurd rfl h
  | x :: a, [], _ => rfl
  | [], y :: b, _ => rfl
  | x :: a, y :: b, h => by
    rw [eqL, eqL_len (a := a) (b := b) (by simpa using h)]; simp
theorem eqL_not {α : Type} {f : α → α → Bool} : ∀ {a b : List α} (j : Nat) (h1 : j < a.length) (h2 : j < b.length), f a[j] b[j] = false → eqL f a b = false
  | [], _, j, h1, _, _ => by simp at h1
  | _, [], j, _, h2, _ => by simp at h2
  | x :: a, y :: b, 0, _, _, h => by
    have h : f x y = false := h
    rw [eqL, h]; rfl
  | x :: a, y :: b, j + 1, h1, h2, h => by
    rw [eqL, eqL_not (a := a) (b := b) j (by simpa using h1) (by simpa using h2) h]; simp
theorem eqL_upto {α : Type} {f : α → α → Bool} : ∀ {a b : List α}, a.length = b.length → (∀ j (h1 : j < a.length) (h2 : j < b.length), f a[j] b[j] = true) → eqL f a b = true
  | [], [], _, _ => rfl
  | x :: a, [], h, _ => by simp at h
  | [], y :: b, h, _ => by simp at h
  | x :: a, y :: b, h, H => by
    have h0 : f x y = true := H 0 (by simp) (by simp)
    rw [eqL, h0, eqL_upto (a := a) (b := b) (by simpa using h) (fun j h1 h2 => H (j + 1) (by simpa using h1) (by simpa using h2))]; rfl
theorem eqL_iff {α : Type} {f : α → α → Bool} (hf : ∀ x y, f x y = true ↔ x = y) : ∀ {a b : List α}, eqL f a b = true ↔ a = b
  | [], [] => by simp [eqL]
  | x :: a, [] => by simp [eqL]
  | [], y :: b => by simp [eqL]
  | x :: a, y :: b => by rw [eqL, Bool.and_eq_true, hf, eqL_iff hf (a := a) (b := b)]; simp
def sI (x y : In) : Bool := x.op == y.op && x.dst == y.dst && x.n == y.n && x.of == y.of && x.src == y.src
def sB (x y : Bl) : Bool := x.dep == y.dep && x.next == y.next && eqL sI x.ins y.ins
def sC (x y : Co) : Bool := x.pa == y.pa && x.re == y.re && x.rs == y.rs && eqL sB x.bl y.bl
theorem sI_iff (x y : In) : sI x y = true ↔ x = y := by
  obtain ⟨a, b, c, d, e⟩ := x; obtain ⟨a', b', c', d', e'⟩ := y
  simp only [sI, Bool.and_eq_true, beq_iff_eq, In.mk.injEq]
  constructor
  · rintro ⟨⟨⟨⟨h1, h2⟩, h3⟩, h4⟩, h5⟩; exact ⟨h1, h2, h5, h3, h4⟩
  · rintro ⟨h1, h2, h5, h3, h4⟩; exact ⟨⟨⟨⟨h1, h2⟩, h3⟩, h4⟩, h5⟩
theorem sB_iff (x y : Bl) : sB x y = true ↔ x = y := by
  obtain ⟨a, b, c⟩ := x; obtain ⟨a', b', c'⟩ := y
  simp only [sB, Bool.and_eq_true, beq_iff_eq, Bl.mk.injEq, eqL_iff sI_iff]
  constructor
  · rintro ⟨⟨h1, h2⟩, h3⟩; exact ⟨h3, h2, h1⟩
  · rintro ⟨h3, h2, h1⟩; exact ⟨⟨h1, h2⟩, h3⟩
theorem sC_iff (x y : Co) : sC x y = true ↔ x = y := by
  obtain ⟨a, b, c, d⟩ := x; obtain ⟨a', b', c', d'⟩ := y
  simp only [sC, Bool.and_eq_true, beq_iff_eq, Co.mk.injEq, eqL_iff sB_iff]
  constructor
  · rintro ⟨⟨⟨h1, h2⟩, h3⟩, h4⟩; exact ⟨h1, h2, h3, h4⟩
  · rintro ⟨h1, h2, h3, h4⟩; exact ⟨⟨⟨h1, h2⟩, h3⟩, h4⟩
theorem two_boxes (w : World) (a b : Array Value) (t : TypeId) : Below w.heap.size w ((w.alloc (.cells a t)).alloc (.cells b t)) ∧ (∀ j : Nat, ((w.alloc (.cells a t)).alloc (.cells b t)).cell? ⟨w.heap.size, j, none⟩ = a[j]?) ∧
    (∀ j : Nat, ((w.alloc (.cells a t)).alloc (.cells b t)).cell? ⟨w.heap.size + 1, j, none⟩ = b[j]?) ∧ ((w.alloc (.cells a t)).alloc (.cells b t)).heap.size = w.heap.size + 2 :=
  ⟨two_allocs _ _ _, fun j => by simp, fun j => by simp, by simp⟩

set_option maxRecDepth 100000 in
set_option maxHeartbeats 1600000 in
theorem sI_any (x y : In) {g g2 : Nat → Prop} {vs vs2 : Value} (w : World) (h1 : NumsL w g x.src vs) (k1 : NumsL w g2 y.src vs2) (l1 : x.src.length ≤ 1099511627776) (l2 : y.src.length ≤ 1099511627776) :
    Calls Tryd.prog 49 #[.agg #[.int .u8 (x.op : Int), .int .i64 x.dst, vs, .int .i64 x.n, .int .u32 x.of], .agg #[.int .u8 (y.op : Int), .int .i64 y.dst, vs2, .int .i64 y.n, .int .u32 y.of]] w fun e w' => e = .returned (.bool (sI x y)) ∧ Below w.heap.size w w' := by
  obtain ⟨op, dst, src, n, of⟩ := x
  obtain ⟨op2, dst2, src2, n2, of2⟩ := y
  simp only at *
  have H1 := hide h1; have K1 := hide k1; have L1 := hide l1; have L2 := hide l2
  obtain ⟨ab, cb, rfl, _⟩ := h1
  obtain ⟨ab2, cb2, rfl, _⟩ := k1
  clear l1 l2
  by_cases e0 : op = op2
  case neg =>
    have t : ((op : Int) == (op2 : Int)) = false := by simp; omega
    have hf : sI ⟨op, dst, src, n, of⟩ ⟨op2, dst2, src2, n2, of2⟩ = false := by simp [sI, e0]
    have HF := hide hf
    clear hf e0 H1 K1
    generalize src.length = ll at *; generalize src2.length = ll2 at *
    go_enter Tryd.func49, Tryd.ntmps49
    go_wp2
    go_ret
    exact ⟨ret_bool (unhide HF).symm, two_allocs _ _ _⟩
  subst e0
  by_cases e1 : dst = dst2
  case neg =>
    have t : (dst == dst2) = false := by simp; omega
    have hf : sI ⟨op, dst, src, n, of⟩ ⟨op, dst2, src2, n2, of2⟩ = false := by simp [sI, e1]
    have HF := hide hf
    clear hf e1 H1 K1
    generalize src.length = ll at *; generalize src2.length = ll2 at *
    go_enter Tryd.func49, Tryd.ntmps49
    go_wp2
    go_ret
    exact ⟨ret_bool (unhide HF).symm, two_allocs _ _ _⟩
  subst e1
  by_cases e2 : n = n2
  case neg =>
    have t : (n == n2) = false := by simp; omega
    have hf : sI ⟨op, dst, src, n, of⟩ ⟨op, dst, src2, n2, of2⟩ = false := by simp [sI, e2]
    have HF := hide hf
    clear hf e2 H1 K1
    generalize src.length = ll at *; generalize src2.length = ll2 at *
    go_enter Tryd.func49, Tryd.ntmps49
    go_wp2
    go_ret
    exact ⟨ret_bool (unhide HF).symm, two_allocs _ _ _⟩
  subst e2
  by_cases e3 : of = of2
  case neg =>
    have t : (of == of2) = false := by simp; omega
    have hf : sI ⟨op, dst, src, n, of⟩ ⟨op, dst, src2, n, of2⟩ = false := by simp [sI, e3]
    have HF := hide hf
    clear hf e3 H1 K1
    generalize src.length = ll at *; generalize src2.length = ll2 at *
    go_enter Tryd.func49, Tryd.ntmps49
    go_wp2
    go_ret
    exact ⟨ret_bool (unhide HF).symm, two_allocs _ _ _⟩
  subst e3
  have HS := hide (show sI ⟨op, dst, src, n, of⟩ ⟨op, dst, src2, n, of⟩ = (src == src2) by simp [sI])
  go_enter Tryd.func49, Tryd.ntmps49
  go_wp2_with fail
  have hb0 := two_allocs w (.cells #[.int .u8 (op : Int), .int .i64 dst, .slice ab src.length cb, .int .i64 n, .int .u32 of] 50) (.cells #[.int .u8 (op : Int), .int .i64 dst, .slice ab2 src2.length cb2, .int .i64 n, .int .u32 of] 50)
  refine (eqi_any ((unhide H1).below hb0) ((unhide K1).below hb0) (unhide L1) (unhide L2)).mono ?_
  rintro e w3 ⟨rfl, hb3⟩
  have HBB := hide (Below.on hb0 hb3)
  clear hb0 hb3
  go_wp2
  go_ret
  exact ⟨ret_bool (unhide HS).symm, unhide HBB⟩

set_option maxRecDepth 100000 in
set_option maxHeartbeats 1600000 in
theorem eqI_any (a b : List In) {g g2 : Nat → Prop} {va vb : Value} (w : World) (ha : LL InC 5 w g a va) (hb : LL InC 5 w g2 b vb) (l1 : a.length ≤ 1099511627776) (l2 : b.length ≤ 1099511627776) (z1 : ∀ x ∈ a, WfI x) (z2 : ∀ x ∈ b, WfI x) :
    Calls Tryd.prog 48 #[va, vb, .func (.func 49) #[] #[]] w fun e w' => e = .returned (.bool (eqL sI a b)) ∧ Below w.heap.size w w' := by
  obtain ⟨aa, ca, rfl, hca, _, hA⟩ := ha
  obtain ⟨ab, cb, rfl, hcb, _, hB⟩ := hb
  by_cases hl : a.length = b.length
  · rw [← hl] at hB hcb ⊢
    have HL := hide hl; have Z1 := hide z1; have Z2 := hide z2
    clear hl z1 z2 l2
    by_cases h0 : 0 < a.length
    · obtain ⟨ba, oa, rfl, _, hba, hla⟩ := hA h0
      obtain ⟨bb, ob, rfl, _, hbb, hlb⟩ := hB h0
      have HLa := hide hla; have HLb := hide hlb
      clear hA hB hla hlb
      generalize hn : a.length = n at *
      have HN := hide hn; clear hn
      go_enter Tryd.func48, Tryd.ntmps48
      go_wp2_with fail
      go_loopw [17] (fun c wr => ∃ j : Nat, c = .int .i64 j ∧ (j : Int) ≤ n ∧ (∀ i (h1 : i < a.length) (h2 : i < b.length), i < j → sI a[i] b[i] = true) ∧ Below w.heap.size w wr) (fun c _ => n - (intOf c).toNat)
      case atStart => exact ⟨0, rfl, by omega, fun i _ _ hi => absurd hi (by omega), Below.refl _ _⟩
      case round =>
        obtain ⟨j, rfl, hj, hall, hbel⟩ := hrel
        have HAll := hide hall; have HBel := hide hbel
        clear hall
        by_cases hlt : (j : Int) < n
        · have ja : j < a.length := by have := unhide HN; omega
          have jb : j < b.length := by have := unhide HN; have := unhide HL; omega
          obtain ⟨cs, hcl, iA, hce⟩ := unhide HLa j a[j] (List.getElem?_eq_getElem ja)
          obtain ⟨ds, hdl, iB, hde⟩ := unhide HLb j b[j] (List.getElem?_eq_getElem jb)
          have cc := fun i u hu => (hbel.cell (p := ⟨ba, oa + j * 5 + i, none⟩) hba).trans (hce i u hu)
          have dd := fun i u hu => (hbel.cell (p := ⟨bb, ob + j * 5 + i, none⟩) hbb).trans (hde i u hu)
          have sA := unhide Z1 a[j] (List.getElem_mem ja)
          have sB := unhide Z2 b[j] (List.getElem_mem jb)
          generalize hx : a[j] = x at *
          generalize hy : b[j] = y at *
          have HX := hide hx; have HY := hide hy; have SA := hide sA; have SB := hide sB
          obtain ⟨v1, rfl, h1⟩ := iA
          obtain ⟨v2, rfl, k1⟩ := iB
          have H1 := hide (h1.below (unhide HBel)); have K1 := hide (k1.below (unhide HBel))
          obtain ⟨c1, cb1, rfl, _⟩ := h1
          obtain ⟨d1, db1, rfl, _⟩ := k1
          have e0 := cc 0 _ rfl; have e1 := cc 1 _ rfl; have e2 := cc 2 _ rfl; have e3 := cc 3 _ rfl; have e4 := cc 4 _ rfl
          have f0 := dd 0 _ rfl; have f1 := dd 1 _ rfl; have f2 := dd 2 _ rfl; have f3 := dd 3 _ rfl; have f4 := dd 4 _ rfl
          simp only [Nat.add_zero] at e0 f0
          clear hx hy sA sB cc dd hce hde hcl hdl hj hbel
          have hlb2 : bb < wr.heap.size := World.block_lt_of_cell? wr _ f0
          go_wp2_with fail
          have hb0 := two_allocs wr (.cells #[.int .u8 (x.op : Int), .int .i64 x.dst, .slice c1 x.src.length cb1, .int .i64 x.n, .int .u32 x.of] 50) (.cells #[.int .u8 (y.op : Int), .int .i64 y.dst, .slice d1 y.src.length db1, .int .i64 y.n, .int .u32 y.of] 50)
          refine (sI_any x y _ ((unhide H1).below hb0) ((unhide K1).below hb0) (unhide SA).len (unhide SB).len).mono ?_
          rintro e w3 ⟨rfl, hb3⟩
          have HBB := hide (Below.on (unhide HBel) (Below.on hb0 hb3))
          clear hb0 hb3 hlb2 e0 e1 e2 e3 e4 f0 f1 f2 f3 f4 H1 K1 HBel
          cases hs : sI x y with
          | false =>
            have HF := hide (show eqL sI a b = false from eqL_not j ja jb (by rw [unhide HX, unhide HY]; exact hs))
            clear hs
            go_wp2
            go_ret
            exact ⟨ret_bool (unhide HF).symm, unhide HBB⟩
          | true =>
            have HT := hide hs
            clear hs
            go_wp2
            go_roundw
            case rel => exact ⟨j + 1, by go_num, by omega, fun i i1 i2 hi => by
              by_cases e : i = j
              · subst e; rw [unhide HX, unhide HY]; exact unhide HT
              · exact unhide HAll i i1 i2 (by omega), unhide HBB⟩
            case measure => simp [intOf]; omega
        · obtain rfl : j = n := by omega
          have HF := hide (show eqL sI a b = true from eqL_upto ((unhide HN).trans (unhide HL)) fun i i1 i2 => unhide HAll i i1 i2 (by have := unhide HN; omega))
          clear hj hlt hbel
          go_wp2
          go_ret
          exact ⟨ret_bool (unhide HF).symm, unhide HBel⟩
    · have hz : a.length = 0 := by omega
      have ht : eqL sI a b = true := eqL_upto (unhide HL) fun i i1 i2 => absurd i1 (by omega)
      rw [ht, hz]
      clear ht hA hB hcb hca h0 hz HL l1
      go_enter Tryd.func48, Tryd.ntmps48
      go_wp2_with fail
      go_loopw [17] (fun c wr => c = .int .i64 0 ∧ wr = w) (fun c _ => 0)
      case atStart => exact ⟨rfl, rfl⟩
      case round =>
        obtain ⟨rfl, rfl⟩ := hrel
        go_wp2
        go_ret
        exact ⟨rfl, Below.refl _ _⟩
  · have hf : eqL sI a b = false := eqL_len hl
    have t : ((a.length : Int) != (b.length : Int)) = true := by simp; omega
    rw [hf]
    clear hf hl hA hB
    generalize a.length = n at *
    generalize b.length = m at *
    go_enter Tryd.func48, Tryd.ntmps48
    go_wp2
    go_ret
    exact ⟨rfl, Below.refl _ _⟩

set_option maxRecDepth 100000 in
set_option maxHeartbeats 1600000 in
theorem sB_any (x y : Bl) (hx : WfB x) (hy : WfB y) {g g2 : Nat → Prop} {vi vn vi2 vn2 : Value} (w : World) (h1 : LL InC 5 w g x.ins vi) (h2 : NumsL w g x.next vn) (k1 : LL InC 5 w g2 y.ins vi2) (k2 : NumsL w g2 y.next vn2) :
    Calls Tryd.prog 27 #[.agg #[vi, vn, .int .i64 x.dep], .agg #[vi2, vn2, .int .i64 y.dep]] w fun e w' => e = .returned (.bool (sB x y)) ∧ Below w.heap.size w w' := by
  have HX := hide hx; have HY := hide hy
  clear hx hy
  obtain ⟨ins, next, dep⟩ := x
  obtain ⟨ins2, next2, dep2⟩ := y
  simp only at *
  have H1 := hide h1; have K1 := hide k1; have H2 := hide h2; have K2 := hide k2
  obtain ⟨ab, cb, rfl, _⟩ := h1
  obtain ⟨ab2, cb2, rfl, _⟩ := k1
  obtain ⟨an, cn, rfl, _⟩ := h2
  obtain ⟨an2, cn2, rfl, _⟩ := k2
  by_cases e0 : dep = dep2
  case neg =>
    have t : (dep == dep2) = false := by simpa using e0
    have hf : sB ⟨ins, next, dep⟩ ⟨ins2, next2, dep2⟩ = false := by simp [sB, e0]
    have HF := hide hf
    clear hf e0 H1 K1 H2 K2 HX HY
    generalize ins.length = ll at *; generalize ins2.length = ll2 at *; generalize next.length = nl at *; generalize next2.length = nl2 at *
    go_enter Tryd.func27, Tryd.ntmps27
    go_wp2
    go_ret
    exact ⟨ret_bool (unhide HF).symm, two_allocs _ _ _⟩
  subst e0
  have HS := hide (show sB ⟨ins, next, dep⟩ ⟨ins2, next2, dep⟩ = ((next == next2) && eqL sI ins ins2) by simp [sB])
  go_enter Tryd.func27, Tryd.ntmps27
  go_wp2_with fail
  obtain ⟨hb0, f5, s5, hz⟩ := two_boxes w #[.slice ab ins.length cb, .slice an next.length cn, .int .i64 dep] #[.slice ab2 ins2.length cb2, .slice an2 next2.length cn2, .int .i64 dep] 47
  generalize (w.alloc (.cells #[.slice ab ins.length cb, .slice an next.length cn, .int .i64 dep] 47)).alloc (.cells #[.slice ab2 ins2.length cb2, .slice an2 next2.length cn2, .int .i64 dep] 47) = w2 at *
  have c5 : w2.cell? ⟨w.heap.size, 0, none⟩ = some (.slice ab ins.length cb) := f5 0
  have d5 : w2.cell? ⟨w.heap.size + 1, 0, none⟩ = some (.slice ab2 ins2.length cb2) := s5 0
  clear f5 s5
  refine (eqi_any ((unhide H2).below hb0) ((unhide K2).below hb0) (unhide HX).nlen (unhide HY).nlen).mono ?_
  rintro e w3 ⟨rfl, hb3⟩
  have hbb := Below.on hb0 hb3
  have hz3 := hb3.size
  replace c5 := (hb3.cell (p := ⟨w.heap.size, 0, none⟩) (by simp only; omega)).trans c5
  replace d5 := (hb3.cell (p := ⟨w.heap.size + 1, 0, none⟩) (by simp only; omega)).trans d5
  have HBB := hide hbb
  clear hb3 hb0 hbb hz hz3
  cases hls : (next == next2) with
  | false =>
    have HF := hide (show sB ⟨ins, next, dep⟩ ⟨ins2, next2, dep⟩ = false by rw [unhide HS, hls]; rfl)
    clear hls
    go_wp2
    go_ret
    exact ⟨ret_bool (unhide HF).symm, unhide HBB⟩
  | true =>
    have HLs := hide hls
    clear hls
    go_wp2_with fail
    refine (eqI_any ins ins2 w3 ((unhide H1).moved (Mv.below (unhide HBB) fun _ _ h => h) (unhide HBB).size (fun _ _ q => q.moved (Mv.below (unhide HBB) fun _ _ h => h))) ((unhide K1).moved (Mv.below (unhide HBB) fun _ _ h => h) (unhide HBB).size (fun _ _ q => q.moved (Mv.below (unhide HBB) fun _ _ h => h))) (unhide HX).len (unhide HY).len (unhide HX).ins (unhide HY).ins).mono ?_
    rintro e w4 ⟨rfl, hb4⟩
    have HB4 := hide (Below.on (unhide HBB) hb4)
    have HF := hide (show sB ⟨ins, next, dep⟩ ⟨ins2, next2, dep⟩ = eqL sI ins ins2 by rw [unhide HS, unhide HLs]; simp)
    clear hb4 c5 d5
    go_wp2
    go_ret
    exact ⟨ret_bool (unhide HF).symm, unhide HB4⟩

set_option maxRecDepth 100000 in
set_option maxHeartbeats 1600000 in
theorem eqB_any (a b : List Bl) {g g2 : Nat → Prop} {va vb : Value} (w : World) (ha : LL BlC 3 w g a va) (hb : LL BlC 3 w g2 b vb) (l1 : a.length ≤ 1099511627776) (l2 : b.length ≤ 1099511627776) (z1 : ∀ x ∈ a, WfB x) (z2 : ∀ x ∈ b, WfB x) :
    Calls Tryd.prog 26 #[va, vb, .func (.func 27) #[] #[]] w fun e w' => e = .returned (.bool (eqL sB a b)) ∧ Below w.heap.size w w' := by
  obtain ⟨aa, ca, rfl, hca, _, hA⟩ := ha
  obtain ⟨ab, cb, rfl, hcb, _, hB⟩ := hb
  by_cases hl : a.length = b.length
  · rw [← hl] at hB hcb ⊢
    have HL := hide hl; have Z1 := hide z1; have Z2 := hide z2
    clear hl z1 z2 l2
    by_cases h0 : 0 < a.length
    · obtain ⟨ba, oa, rfl, _, hba, hla⟩ := hA h0
      obtain ⟨bb, ob, rfl, _, hbb, hlb⟩ := hB h0
      have HLa := hide hla; have HLb := hide hlb
      clear hA hB hla hlb
      generalize hn : a.length = n at *
      have HN := hide hn; clear hn
      go_enter Tryd.func26, Tryd.ntmps26
      go_wp2_with fail
      go_loopw [17] (fun c wr => ∃ j : Nat, c = .int .i64 j ∧ (j : Int) ≤ n ∧ (∀ i (h1 : i < a.length) (h2 : i < b.length), i < j → sB a[i] b[i] = true) ∧ Below w.heap.size w wr) (fun c _ => n - (intOf c).toNat)
      case atStart => exact ⟨0, rfl, by omega, fun i _ _ hi => absurd hi (by omega), Below.refl _ _⟩
      case round =>
        obtain ⟨j, rfl, hj, hall, hbel⟩ := hrel
        have HAll := hide hall; have HBel := hide hbel
        clear hall
        by_cases hlt : (j : Int) < n
        · have ja : j < a.length := by have := unhide HN; omega
          have jb : j < b.length := by have := unhide HN; have := unhide HL; omega
          obtain ⟨cs, hcl, iA, hce⟩ := unhide HLa j a[j] (List.getElem?_eq_getElem ja)
          obtain ⟨ds, hdl, iB, hde⟩ := unhide HLb j b[j] (List.getElem?_eq_getElem jb)
          have cc := fun i u hu => (hbel.cell (p := ⟨ba, oa + j * 3 + i, none⟩) hba).trans (hce i u hu)
          have dd := fun i u hu => (hbel.cell (p := ⟨bb, ob + j * 3 + i, none⟩) hbb).trans (hde i u hu)
          have sA := unhide Z1 a[j] (List.getElem_mem ja)
          have sB := unhide Z2 b[j] (List.getElem_mem jb)
          generalize hx : a[j] = x at *
          generalize hy : b[j] = y at *
          have HX := hide hx; have HY := hide hy; have SA := hide sA; have SB := hide sB
          obtain ⟨v1, w1, rfl, h1, h2⟩ := iA
          obtain ⟨v2, w2, rfl, k1, k2⟩ := iB
          have H1 := hide (Inss.below (unhide HBel) h1); have K1 := hide (Inss.below (unhide HBel) k1); have H2 := hide (h2.below (unhide HBel)); have K2 := hide (k2.below (unhide HBel))
          obtain ⟨c1, cb1, rfl, _⟩ := h1
          obtain ⟨d1, db1, rfl, _⟩ := k1
          obtain ⟨c2, cb2, rfl, _⟩ := h2
          obtain ⟨d2, db2, rfl, _⟩ := k2
          have e0 := cc 0 _ rfl; have e1 := cc 1 _ rfl; have e2 := cc 2 _ rfl
          have f0 := dd 0 _ rfl; have f1 := dd 1 _ rfl; have f2 := dd 2 _ rfl
          simp only [Nat.add_zero] at e0 f0
          clear hx hy sA sB cc dd hce hde hcl hdl hj hbel
          have hlb2 : bb < wr.heap.size := World.block_lt_of_cell? wr _ f0
          go_wp2_with fail
          have hb0 := two_allocs wr (.cells #[.slice c1 x.ins.length cb1, .slice c2 x.next.length cb2, .int .i64 x.dep] 47) (.cells #[.slice d1 y.ins.length db1, .slice d2 y.next.length db2, .int .i64 y.dep] 47)
          refine (sB_any x y (unhide SA) (unhide SB) _ (Inss.below hb0 (unhide H1)) ((unhide H2).below hb0) (Inss.below hb0 (unhide K1)) ((unhide K2).below hb0)).mono ?_
          rintro e w3 ⟨rfl, hb3⟩
          have HBB := hide (Below.on (unhide HBel) (Below.on hb0 hb3))
          clear hb0 hb3 hlb2 e0 e1 e2 f0 f1 f2 H1 K1 H2 K2 HBel
          cases hs : sB x y with
          | false =>
            have HF := hide (show eqL sB a b = false from eqL_not j ja jb (by rw [unhide HX, unhide HY]; exact hs))
            clear hs
            go_wp2
            go_ret
            exact ⟨ret_bool (unhide HF).symm, unhide HBB⟩
          | true =>
            have HT := hide hs
            clear hs
            go_wp2
            go_roundw
            case rel => exact ⟨j + 1, by go_num, by omega, fun i i1 i2 hi => by
              by_cases e : i = j
              · subst e; rw [unhide HX, unhide HY]; exact unhide HT
              · exact unhide HAll i i1 i2 (by omega), unhide HBB⟩
            case measure => simp [intOf]; omega
        · obtain rfl : j = n := by omega
          have HF := hide (show eqL sB a b = true from eqL_upto ((unhide HN).trans (unhide HL)) fun i i1 i2 => unhide HAll i i1 i2 (by have := unhide HN; omega))
          clear hj hlt hbel
          go_wp2
          go_ret
          exact ⟨ret_bool (unhide HF).symm, unhide HBel⟩
    · have hz : a.length = 0 := by omega
      have ht : eqL sB a b = true := eqL_upto (unhide HL) fun i i1 i2 => absurd i1 (by omega)
      rw [ht, hz]
      clear ht hA hB hcb hca h0 hz HL l1
      go_enter Tryd.func26, Tryd.ntmps26
      go_wp2_with fail
      go_loopw [17] (fun c wr => c = .int .i64 0 ∧ wr = w) (fun c _ => 0)
      case atStart => exact ⟨rfl, rfl⟩
      case round =>
        obtain ⟨rfl, rfl⟩ := hrel
        go_wp2
        go_ret
        exact ⟨rfl, Below.refl _ _⟩
  · have hf : eqL sB a b = false := eqL_len hl
    have t : ((a.length : Int) != (b.length : Int)) = true := by simp; omega
    rw [hf]
    clear hf hl hA hB
    generalize a.length = n at *
    generalize b.length = m at *
    go_enter Tryd.func26, Tryd.ntmps26
    go_wp2
    go_ret
    exact ⟨rfl, Below.refl _ _⟩

set_option maxRecDepth 100000 in
set_option maxHeartbeats 1600000 in
theorem same_any (x y : Co) (hx : WfC x) (hy : WfC y) {g g2 : Nat → Prop} {v v2 : Value} (w : World) (h1 : Bls w g x.bl v) (k1 : Bls w g2 y.bl v2) :
    Calls Tryd.prog 13 #[.agg #[.int .i64 x.pa, .int .i64 x.re, .bool x.rs, v], .agg #[.int .i64 y.pa, .int .i64 y.re, .bool y.rs, v2]] w fun e w' => e = .returned (.bool (sC x y)) ∧ Below w.heap.size w w' := by
  have HX := hide hx; have HY := hide hy
  clear hx hy
  obtain ⟨pa, re, rs, bl⟩ := x
  obtain ⟨pa2, re2, rs2, bl2⟩ := y
  simp only at *
  have H1 := hide h1; have K1 := hide k1
  obtain ⟨ab, cb, rfl, _⟩ := h1
  obtain ⟨ab2, cb2, rfl, _⟩ := k1
  by_cases e0 : pa = pa2
  case neg =>
    have t : (pa == pa2) = false := by simpa using e0
    have hf : sC ⟨pa, re, rs, bl⟩ ⟨pa2, re2, rs2, bl2⟩ = false := by simp [sC, e0]
    have HF := hide hf
    clear hf e0 H1 K1 HX HY
    generalize bl.length = ll at *; generalize bl2.length = ll2 at *
    go_enter Tryd.func13, Tryd.ntmps13
    go_wp2
    go_ret
    exact ⟨ret_bool (unhide HF).symm, two_allocs _ _ _⟩
  subst e0
  by_cases e1 : re = re2
  case neg =>
    have t : (re == re2) = false := by simpa using e1
    have hf : sC ⟨pa, re, rs, bl⟩ ⟨pa, re2, rs2, bl2⟩ = false := by simp [sC, e1]
    have HF := hide hf
    clear hf e1 H1 K1 HX HY
    generalize bl.length = ll at *; generalize bl2.length = ll2 at *
    go_enter Tryd.func13, Tryd.ntmps13
    go_wp2
    go_ret
    exact ⟨ret_bool (unhide HF).symm, two_allocs _ _ _⟩
  subst e1
  by_cases e2 : rs = rs2
  case neg =>
    have t : (rs == rs2) = false := by simpa using e2
    have hf : sC ⟨pa, re, rs, bl⟩ ⟨pa, re, rs2, bl2⟩ = false := by simp [sC, e2]
    have HF := hide hf
    clear hf e2 H1 K1 HX HY
    generalize bl.length = ll at *; generalize bl2.length = ll2 at *
    go_enter Tryd.func13, Tryd.ntmps13
    go_wp2
    go_ret
    exact ⟨ret_bool (unhide HF).symm, two_allocs _ _ _⟩
  subst e2
  have HS := hide (show sC ⟨pa, re, rs, bl⟩ ⟨pa, re, rs, bl2⟩ = eqL sB bl bl2 by simp [sC])
  go_enter Tryd.func13, Tryd.ntmps13
  go_wp2_with fail
  have hb0 := two_allocs w (.cells #[.int .i64 pa, .int .i64 re, .bool rs, .slice ab bl.length cb] 29) (.cells #[.int .i64 pa, .int .i64 re, .bool rs, .slice ab2 bl2.length cb2] 29)
  refine (eqB_any bl bl2 _ ((unhide H1).below hb0) ((unhide K1).below hb0) (unhide HX).len (unhide HY).len (unhide HX).bl (unhide HY).bl).mono ?_
  rintro e w3 ⟨rfl, hb3⟩
  have HBB := hide (Below.on hb0 hb3)
  clear hb0 hb3
  go_wp2
  go_ret
  exact ⟨ret_bool (unhide HS).symm, unhide HBB⟩
end Vc
end Go.Proofs.YtgelkfmdkmopbaaDoor

/- VcodeChecks: its walk. -/
namespace Go.Proofs.YtgelkfmdkmopbaaDoor
open Go.RowKit
namespace Vc
set_option linter.unusedVariables false
set_option linter.unusedSimpArgs false
structure Cs (w : World) (c : Co) (v va : Value) (NA : Nat) (W : World) : Prop where
  b0 : W.heap[w.heap.size]? = some (.cells (cob c.pa c.re c.rs v) 24 (0, 0))
  b5 : W.heap[NA]? = some (.cells (cob c.pa c.re c.rs va) 29 (0, 0))
  la : Bls W (fun k => k < NA) c.bl va
  be : Below w.heap.size w W
theorem Cs.on {w : World} {c : Co} {v va : Value} {NA : Nat} {W W' : World} (h : Cs w c v va NA W) (hb : Below W.heap.size W W') : Cs w c v va NA W' :=
  ⟨(hb.block _ (Array.getElem?_eq_some_iff.1 h.b0).1).trans h.b0, (hb.block _ (Array.getElem?_eq_some_iff.1 h.b5).1).trans h.b5, h.la.below hb, h.be.trans (hb.mono h.be.size)⟩
theorem Cs.cls {w : World} {c : Co} {v va : Value} {NA : Nat} {W : World} (h : Cs w c v va NA W) :
    (W.cell? ⟨w.heap.size, 0, none⟩ = some (.int .i64 c.pa) ∧ W.cell? ⟨w.heap.size, 1, none⟩ = some (.int .i64 c.re) ∧ W.cell? ⟨w.heap.size, 2, none⟩ = some (.bool c.rs) ∧ W.cell? ⟨w.heap.size, 3, none⟩ = some v) ∧
    (W.cell? ⟨NA, 0, none⟩ = some (.int .i64 c.pa) ∧ W.cell? ⟨NA, 1, none⟩ = some (.int .i64 c.re) ∧ W.cell? ⟨NA, 2, none⟩ = some (.bool c.rs) ∧ W.cell? ⟨NA, 3, none⟩ = some va) := by
  obtain ⟨x0, x1, x2, x3, _, _⟩ := cob_cells h.b0
  obtain ⟨y0, y1, y2, y3, _, _⟩ := cob_cells h.b5
  exact ⟨⟨x0, x1, x2, x3⟩, y0, y1, y2, y3⟩
theorem Cs.lt {w : World} {c : Co} {v va : Value} {NA : Nat} {W : World} (h : Cs w c v va NA W) : w.heap.size < W.heap.size ∧ NA < W.heap.size := ⟨(Array.getElem?_eq_some_iff.1 h.b0).1, (Array.getElem?_eq_some_iff.1 h.b5).1⟩
theorem txt_len2 (c : Co) (hc : WfC c) (h1 : c.bl.length ≤ 200) (h2 : tot c.bl ≤ 1500) : (txt c).length ≤ 68719476736 := by
  have hf : (first c).length ≤ 100 := by
    have := dec_len _ hc.pa; have := dec_len _ hc.re
    unfold first
    cases c.rs <;> simp <;> omega
  have hb : (txtB 0 c.bl).length ≤ c.bl.length * (100 + 101700000) := by
    refine txtB_len c.bl 0 (fun b hb => ⟨(hc.bl b hb).dep, ?_⟩) (by omega)
    have h3 : b.next.length + totI b.ins ≤ tot c.bl := le_sum (fun b : Bl => b.next.length + totI b.ins) hb
    have h4 := len_totI b.ins
    have h5 : (insT b.ins b.next).length ≤ b.ins.length * 67800 := flat_len fun x hx => by
      have h6 := line_len x ((hc.bl b hb).ins x hx) b.next (hc.bl b hb).next
      have h7 : 1 + x.src.length ≤ totI b.ins := le_sum (fun x : In => 1 + x.src.length) hx
      omega
    omega
  unfold txt
  rw [List.length_append]; omega
theorem alloc_row2 (w : World) (o : Obj) {q : Nat} {x : Obj} (h : w.heap[q]? = some x) : (w.alloc o).heap[q]? = some x := by
  rw [Below.heap_alloc _ _ _ (Array.getElem?_eq_some_iff.1 h).1]; exact h
theorem sC_self2 (c : Co) : sC c c = true := (sC_iff c c).2 rfl
theorem str_ne {a b : List UInt8} (h : a = b) : ((str a).toList == (str b).toList) = true := by rw [h]; exact beq_self_eq_true _

set_option maxRecDepth 100000 in
set_option maxHeartbeats 12800000 in
theorem checks_walk (c : Co) (hc0 : WfC0 c) (v : Value) (w : World) (hT : Fms w) (hN : Nms w) (hP : P10 w) (hEr : ErrT w) (hv : Bls w (fun k => k < w.heap.size) c.bl v) :
    Calls Tryd.prog 3 #[.agg #[.int .i64 c.pa, .int .i64 c.re, .bool c.rs, v]] w fun e w' => e = .returned (.bool true) ∧ Below w.heap.size w w' := by
  have hsure := fun W (h : Below w.heap.size w W) => sure_any W (TC.below hT h) (hN.below h) (hP.below h)
  have hmv : ∀ W, Below w.heap.size w W → Bls W (fun k => k < w.heap.size) c.bl v := fun W h => hv.moved (fun k _ hk => ⟨hk, h.block k hk⟩) h.size
  have hgive := fun (hc : WfC c) W (h : Below w.heap.size w W) => give_any c hc (fun k => k < w.heap.size) v W (hmv W h) (fun k hk => Nat.lt_of_lt_of_le hk h.size)
  have hheavy := fun W (h : Below w.heap.size w W) => heavy_any c.pa c.re c.rs c.bl hc0.bl (fun k => k < w.heap.size) v W (hmv W h) hc0.len
  have hmay := fun (hc : WfC c) (hz : siz c.bl ≤ 1099511627776) W (h : Below w.heap.size w W) => rmay_any c hc (fun k => k < w.heap.size) v W (hmv W h) hz
  have hsize := fun (hc : WfC c) (hz : siz c.bl ≤ 1099511627776) W (h : Below w.heap.size w W) => rsize_any c.pa c.re c.rs c.bl (fun k => k < w.heap.size) v W (hmv W h) hc.len hz
  have hsz2 := fun (hc : WfC c) (hz : siz c.bl ≤ 1099511627776) g va W (hb : Bls W g c.bl va) => size_any c.pa c.re c.rs c.bl g va W hb hc.len hz
  have hsame := fun (hc : WfC c) g g2 va vb W (h1 : Bls W g c.bl va) (h2 : Bls W g2 c.bl vb) => same_any c c hc hc (g := g) (g2 := g2) (v := va) (v2 := vb) W h1 h2
  have htext := fun (hc : WfC c) (hz : siz c.bl ≤ 1099511627776) (hl : (txt c).length ≤ 1099511627776) g va W (h : Below w.heap.size w W) (hb : Bls W g c.bl va) (hg : ∀ k, g k → k < W.heap.size) => text_any c hc g va W (TC.below hT h) (hN.below h) (hP.below h) hb hg hz hl
  have hcheck := fun (hc : WfC c) (hz : siz c.bl ≤ 1099511627776) g va W (h : Below w.heap.size w W) (hb : Bls W g c.bl va) => check_any c hc g va W (TC.below hT h) hb hz
  have hrtext := fun (hc : WfC c) (hk : chk c = true) (hl : (txt c).length ≤ 68719476736) W (h : Below w.heap.size w W) => rtext_any c hc hk (fun k => k < w.heap.size) v W (hmv W h) hl
  have hnum := fun k W (h : Below w.heap.size w W) => num_hit k W (hEr.below (Nat.le_refl _) h)
  have HSu := hide hsure; have HGi0 := hide hgive; have HHe := hide hheavy; have HMy0 := hide hmay; have HSz0 := hide hsize; have HSzb0 := hide hsz2; have HSa0 := hide hsame; have HTx0 := hide htext; have HCh0 := hide hcheck; have HRt0 := hide hrtext; have HNu := hide hnum; have HC0 := hide hc0; have HV := hide hv
  clear hsure hgive hheavy hmay hsize hsz2 hsame htext hcheck hrtext hnum hT hN hP hEr hmv
  obtain ⟨a, cp, rfl⟩ := bls_shape2 hv
  clear hv hc0
  have hb1 := one_alloc w (.cells #[.int .i64 c.pa, .int .i64 c.re, .bool c.rs, .slice a c.bl.length cp] 24)
  have r1 : (w.alloc (.cells #[.int .i64 c.pa, .int .i64 c.re, .bool c.rs, .slice a c.bl.length cp] 24)).heap[w.heap.size]? = some (.cells (cob c.pa c.re c.rs (.slice a c.bl.length cp)) 24 (0, 0)) := heap_alloc_new _ _
  have HB1 := hide hb1; have HR1 := hide r1
  clear hb1 r1
  go_enter Tryd.func3, Tryd.ntmps3
  go_upto_region 1 with fail
  generalize w.alloc (.cells #[.int .i64 c.pa, .int .i64 c.re, .bool c.rs, .slice a c.bl.length cp] 24) = W1 at *
  obtain ⟨x0, x1, x2, x3, _, xl⟩ := cob_cells (unhide HR1)
  go_wp2_with fail
  refine (unhide HHe W1 (unhide HB1)).mono ?_
  rintro e w2 ⟨⟨hb, rfl, hhv⟩, hb2⟩
  have hr2 := (hb2.block _ xl).trans (unhide HR1)
  have HHv := hide hhv; have HR2 := hide hr2
  have HBe2 := hide ((unhide HB1).trans (hb2.mono (unhide HB1).size))
  clear hhv x0 x1 x2 x3 xl HHe HB1 HR1 hb2
  obtain ⟨x0, x1, x2, x3, _, xl⟩ := cob_cells hr2
  clear hr2
  cases hb with
  | true =>
    clear HHv
    go_wp2_with fail
    refine (unhide HSu w2 (unhide HBe2)).mono ?_
    rintro e w3 ⟨rfl, hb3⟩
    have HB3 := hide ((unhide HBe2).trans (hb3.mono (unhide HBe2).size))
    clear hb3
    go_wp2
    go_ret
    exact ⟨rfl, unhide HB3⟩
  | false =>
  have hh := unhide HHv rfl
  have HC := hide ((unhide HC0).up hh.1 hh.2)
  have hsz := siz_tot c.bl
  have HZ := hide (show siz c.bl ≤ 1099511627776 by have := hh.2; omega)
  have HTl := hide (txt_len c (unhide HC) hh.1 hh.2)
  have HTl2 := hide (txt_len2 c (unhide HC) hh.1 hh.2)
  have HMy := hide (unhide HMy0 (unhide HC) (unhide HZ)); have HGi := hide (unhide HGi0 (unhide HC)); have HSz := hide (unhide HSz0 (unhide HC) (unhide HZ)); have HTx := hide (unhide HTx0 (unhide HC) (unhide HZ) (unhide HTl)); have HSzb := hide (unhide HSzb0 (unhide HC) (unhide HZ)); have HSa := hide (unhide HSa0 (unhide HC)); have HCh := hide (unhide HCh0 (unhide HC) (unhide HZ))
  have HRt := hide (fun hk => unhide HRt0 (unhide HC) hk (unhide HTl2))
  have HSelf := hide (sC_self2 c)
  clear hh hsz HHv HMy0 HGi0 HSz0 HTx0 HC0 HSzb0 HSa0 HCh0 HRt0 HZ HTl HTl2
  go_wp2_with fail
  refine (unhide HGi w2 (unhide HBe2)).mono ?_
  rintro e w3 ⟨va, rfl, hla, hb3⟩
  obtain ⟨aa, ca, rfl⟩ := bls_shape2 hla
  have hal := one_alloc w3 (.cells #[.int .i64 c.pa, .int .i64 c.re, .bool c.rs, .slice aa c.bl.length ca] 29)
  have hcs : Cs w c (.slice a c.bl.length cp) (.slice aa c.bl.length ca) w3.heap.size (w3.alloc (.cells #[.int .i64 c.pa, .int .i64 c.re, .bool c.rs, .slice aa c.bl.length ca] 29)) :=
    ⟨alloc_row2 _ _ ((hb3.block _ xl).trans (unhide HR2)), heap_alloc_new _ _, hla.below hal, ((unhide HBe2).trans (hb3.mono (unhide HBe2).size)).trans (hal.mono (Nat.le_trans (unhide HBe2).size hb3.size))⟩
  have HCs := hide hcs
  clear hcs hal hla hb3 x0 x1 x2 x3 xl HR2 HBe2
  go_upto_region 4 with fail
  generalize w3.alloc (.cells #[.int .i64 c.pa, .int .i64 c.re, .bool c.rs, .slice aa c.bl.length ca] 29) = W4 at *
  generalize w3.heap.size = NA at *
  obtain ⟨⟨x0, x1, x2, x3⟩, y0, y1, y2, y3⟩ := (unhide HCs).cls
  obtain ⟨xl, yl⟩ := (unhide HCs).lt
  go_wp2_with fail
  refine (unhide HTx _ _ W4 (unhide HCs).be (unhide HCs).la (fun k hk => Nat.lt_trans hk (unhide HCs).lt.2)).mono ?_
  rintro e w5 ⟨rfl, hb5⟩
  have hcs := (unhide HCs).on hb5
  have HCs := hide hcs
  clear hcs hb5 x0 x1 x2 x3 y0 y1 y2 y3 xl yl HTx
  obtain ⟨⟨x0, x1, x2, x3⟩, y0, y1, y2, y3⟩ := (unhide HCs).cls
  obtain ⟨xl, yl⟩ := (unhide HCs).lt
  go_upto_region 5 with fail
  generalize siz c.bl = z at *
  go_cut [28] (fun v wx => v = .bool false ∧ Cs w c (.slice a c.bl.length cp) (.slice aa c.bl.length ca) NA wx)
  case first =>
    have HWc := hide (show Cs w c (.slice a c.bl.length cp) (.slice aa c.bl.length ca) NA w5.drew from (unhide HCs).on (Below.refl _ _).drew)
    have hk := (unhide HWc).cls
    clear x0 x1 x2 x3 y0 y1 y2 y3
    go_region_held3 (fun W => (W.cell? ⟨w.heap.size, 0, none⟩ = some (.int .i64 c.pa) ∧ W.cell? ⟨w.heap.size, 1, none⟩ = some (.int .i64 c.re) ∧ W.cell? ⟨w.heap.size, 2, none⟩ = some (.bool c.rs) ∧ W.cell? ⟨w.heap.size, 3, none⟩ = some (.slice a c.bl.length cp)) ∧
        (W.cell? ⟨NA, 0, none⟩ = some (.int .i64 c.pa) ∧ W.cell? ⟨NA, 1, none⟩ = some (.int .i64 c.re) ∧ W.cell? ⟨NA, 2, none⟩ = some (.bool c.rs) ∧ W.cell? ⟨NA, 3, none⟩ = some (.slice aa c.bl.length ca)))
      (first | go_keep | exact hk)
      (first
        | (go_at_call 11; refine (unhide HSzb _ _ _ (unhide HWc).la).mono ?_; rintro e w7 ⟨rfl, hb7⟩; have HWc := hide ((unhide HWc).on hb7); clear hb7; have hk := (unhide HWc).cls)
        | (go_at_call 12; refine (unhide HSz _ (unhide HWc).be).mono ?_; rintro e w7 ⟨rfl, hb7⟩; have HWc := hide ((unhide HWc).on hb7); clear hb7; have hk := (unhide HWc).cls)
        | (go_at_call 9; refine (unhide HGi _ (unhide HWc).be).mono ?_; rintro e w8 ⟨vc, rfl, hlc, hb8⟩; obtain ⟨ac, cc, rfl⟩ := bls_shape2 hlc; have HLc := hide hlc; have HWc := hide ((unhide HWc).on hb8); clear hb8 hlc; have hk := (unhide HWc).cls)
        | (go_at_call 13; refine (unhide HSa _ _ _ _ _ (unhide HWc).la (unhide HLc)).mono ?_; rw [unhide HSelf]; rintro e w9 ⟨rfl, hb9⟩; have HWc := hide ((unhide HWc).on hb9); clear hb9; have hk := (unhide HWc).cls)
        | fail)
    all_goals (go_wp2_with fail)
    all_goals go_meet
    all_goals exact ⟨rfl, unhide HWc⟩
  case rest =>
    obtain ⟨rfl, hcs⟩ := hcut
    have HCs := hide hcs
    clear hcs x0 x1 x2 x3 y0 y1 y2 y3 xl yl HSz HSzb HGi HSa HSelf
    obtain ⟨⟨x0, x1, x2, x3⟩, y0, y1, y2, y3⟩ := (unhide HCs).cls
    obtain ⟨xl, yl⟩ := (unhide HCs).lt
    go_wp2_with fail
    refine (unhide HMy _ (unhide HCs).be).mono ?_
    rintro e w6 ⟨rfl, hb6⟩
    have hcs := (unhide HCs).on hb6
    have HCs := hide hcs
    clear hcs hb6 x0 x1 x2 x3 y0 y1 y2 y3 xl yl HMy
    obtain ⟨⟨x0, x1, x2, x3⟩, y0, y1, y2, y3⟩ := (unhide HCs).cls
    obtain ⟨xl, yl⟩ := (unhide HCs).lt
    cases hck : chk c with
    | false =>
      have hS : txS c = [] := by unfold txS; rw [hck]; rfl
      have hE : txE c = 1 := by unfold txE; rw [hck]; rfl
      rw [hS, hE, errV_1]
      rw [hck] at HCh
      clear hS hE hck HRt
      go_wp2_with fail
      refine (unhide HNu 1 _ (unhide HCs).be).mono ?_
      rintro e w7 ⟨rfl, hb7⟩
      have hcs := (unhide HCs).on hb7
      have HCs := hide hcs
      clear hcs hb7 x0 x1 x2 x3 y0 y1 y2 y3 xl yl
      obtain ⟨⟨x0, x1, x2, x3⟩, y0, y1, y2, y3⟩ := (unhide HCs).cls
      obtain ⟨xl, yl⟩ := (unhide HCs).lt
      go_wp2_with fail
      refine (unhide HCh _ _ _ (unhide HCs).be (unhide HCs).la).mono ?_
      rw [show errV (if false = true then 0 else 1) = .iface 60 (.int .i64 1) from errV_1]
      rintro e w8 ⟨rfl, hb8⟩
      have hcs := (unhide HCs).on hb8
      have HCs := hide hcs
      clear hcs hb8 x0 x1 x2 x3 y0 y1 y2 y3 xl yl
      go_wp2_with fail
      refine (unhide HNu 1 _ (unhide HCs).be).mono ?_
      rintro e w9 ⟨rfl, hb9⟩
      have hcs := (unhide HCs).on hb9
      have HCs := hide hcs
      clear hcs hb9
      have hse : ((str []).toList == ([] : List UInt8)) = true := by rw [str_toList]; rfl
      generalize str [] = SE at *
      go_wp2_with fail
      refine (unhide HSu _ (unhide HCs).be).mono ?_
      rintro e w10 ⟨rfl, hb10⟩
      have HBf := hide ((unhide HCs).be.trans (hb10.mono (unhide HCs).be.size))
      clear hb10
      go_wp2
      go_ret
      exact ⟨rfl, unhide HBf⟩
    | true =>
      have hS : txS c = if (txt c).length ≤ 65536 then txt c else [] := by unfold txS; rw [hck]; rfl
      have hE : txE c = if (txt c).length ≤ 65536 then 0 else 2 := by unfold txE; rw [hck]; rfl
      rw [hS, hE]
      rw [hck] at HCh
      have HRt2 := hide (unhide HRt hck)
      clear hS hE hck HRt
      by_cases h6 : (txt c).length ≤ 65536
      · rw [if_pos h6, if_pos h6, errV_0]
        go_wp2_with fail
        refine (unhide HRt2 _ (unhide HCs).be).mono ?_
        rintro e w7 ⟨rfl, hb7⟩
        have hcs := (unhide HCs).on hb7
        have HCs := hide hcs
        clear hcs hb7 x0 x1 x2 x3 y0 y1 y2 y3 xl yl HRt2
        obtain ⟨⟨x0, x1, x2, x3⟩, y0, y1, y2, y3⟩ := (unhide HCs).cls
        obtain ⟨xl, yl⟩ := (unhide HCs).lt
        generalize txt c = TT at *
        have hsz : ¬ ((65536 : Int) < ((str TT).size : Int)) := by have : (str TT).size = TT.length := rfl; omega
        have hse : ((str TT).toList == (str TT).toList) = true := beq_self_eq_true _
        generalize str TT = S at *
        go_wp2_with fail
        refine (unhide HCh _ _ _ (unhide HCs).be (unhide HCs).la).mono ?_
        rw [if_pos trivial, errV_0]
        rintro e w8 ⟨rfl, hb8⟩
        have hcs := (unhide HCs).on hb8
        have HCs := hide hcs
        clear hcs hb8 x0 x1 x2 x3 y0 y1 y2 y3 xl yl
        go_wp2_with fail
        refine (unhide HSu _ (unhide HCs).be).mono ?_
        rintro e w10 ⟨rfl, hb10⟩
        have HBf := hide ((unhide HCs).be.trans (hb10.mono (unhide HCs).be.size))
        clear hb10
        go_wp2
        go_ret
        exact ⟨rfl, unhide HBf⟩
      · rw [if_neg h6, if_neg h6, errV_2]
        go_wp2_with fail
        refine (unhide HRt2 _ (unhide HCs).be).mono ?_
        rintro e w7 ⟨rfl, hb7⟩
        have hcs := (unhide HCs).on hb7
        have HCs := hide hcs
        clear hcs hb7 x0 x1 x2 x3 y0 y1 y2 y3 xl yl HRt2
        obtain ⟨⟨x0, x1, x2, x3⟩, y0, y1, y2, y3⟩ := (unhide HCs).cls
        obtain ⟨xl, yl⟩ := (unhide HCs).lt
        generalize txt c = TT at *
        have hsz : ((65536 : Int) < ((str TT).size : Int)) := by have : (str TT).size = TT.length := rfl; omega
        generalize str TT = S at *
        generalize str [] = SE at *
        go_wp2_with fail
        refine (unhide HNu 2 _ (unhide HCs).be).mono ?_
        rintro e w8 ⟨rfl, hb8⟩
        have hcs := (unhide HCs).on hb8
        have HCs := hide hcs
        clear hcs hb8 x0 x1 x2 x3 y0 y1 y2 y3 xl yl
        go_wp2_with fail
        refine (unhide HSu _ (unhide HCs).be).mono ?_
        rintro e w10 ⟨rfl, hb10⟩
        have HBf := hide ((unhide HCs).be.trans (hb10.mono (unhide HCs).be.size))
        clear hb10
        go_wp2
        go_ret
        exact ⟨rfl, unhide HBf⟩
end Vc
end Go.Proofs.YtgelkfmdkmopbaaDoor

/- Code that comes in, opened, however long. -/
namespace Go.Proofs.YtgelkfmdkmopbaaDoor
open Go.ChangeShapes Go.WideShapes Go.ChangeAt Go.RowKit
namespace Vc
set_option linter.unusedVariables false
set_option linter.unusedSimpArgs false

theorem cell_at {cs : List Value} {k n : Nat} {x : Value} (hl : cs.length = n) (hk : k < n) (h : (cs.drop k).take 1 = [x]) : cs[k]? = some x := by
  have h1 : ((cs.drop k).take 1)[0]? = some x := by rw [h]; rfl
  rw [List.getElem?_take_of_lt (by omega), List.getElem?_drop] at h1
  simpa using h1
theorem list3 {cs : List Value} {x0 x1 x2 : Value} (h : cs.length = 3) (h0 : cs[0]? = some x0) (h1 : cs[1]? = some x1) (h2 : cs[2]? = some x2) : cs = [x0, x1, x2] := by
  match cs, h with
  | [y0, y1, y2], _ => simp_all
theorem list4 {cs : List Value} {x0 x1 x2 x3 : Value} (h : cs.length = 4) (h0 : cs[0]? = some x0) (h1 : cs[1]? = some x1) (h2 : cs[2]? = some x2) (h3 : cs[3]? = some x3) : cs = [x0, x1, x2, x3] := by
  match cs, h with
  | [y0, y1, y2, y3], _ => simp_all
theorem list5 {cs : List Value} {x0 x1 x2 x3 x4 : Value} (h : cs.length = 5) (h0 : cs[0]? = some x0) (h1 : cs[1]? = some x1) (h2 : cs[2]? = some x2) (h3 : cs[3]? = some x3) (h4 : cs[4]? = some x4) : cs = [x0, x1, x2, x3, x4] := by
  match cs, h with
  | [y0, y1, y2, y3, y4], _ => simp_all
theorem open_nums {H : Type} {enc : TypeId × Value → H} {w : World} {base fuel : Nat} {cs : List Value} {x : DataW H × List MemPlace}
    (h : DataW.trod enc Tryd.prog w base (fun _ => true) true fuel 45 cs = some x) : ∃ (ls : List Int) (v : Value), cs = [v] ∧ NumsL w (fun _ => True) ls v ∧ (∀ z ∈ ls, i64 z) ∧ ls.length ≤ 9223372036854775807 := by
  rcases open_ints Tryd.underlying45 Tryd.underlying3 (by kernel_rfl) h with ⟨hcs, hx⟩ | ⟨a, len, cap, zs, hcs, _, hl, hm, hz, hx, hc, hw⟩
  · exact ⟨[], _, hcs, ⟨none, 0, rfl, Nat.le_refl _, fun _ => rfl, fun h => by simp at h⟩, by simp, by simp⟩
  · have hzl : zs.length = cap := by simpa using hz
    have hlt : (zs.take len).length = len := by simp; omega
    refine ⟨zs.take len, .slice (some a) len cap, hcs, ⟨some a, cap, by rw [hlt], by omega, by simp, fun h0 => ?_⟩, fun z hzm => ?_, ?_⟩
    · obtain ⟨b, off, spot⟩ := a
      have h00 := hc 0 (by omega)
      have hspot : spot = none := by simpa [Addr.add] using World.cell?_spot h00
      subst hspot
      refine ⟨b, off, rfl, trivial, fun i hi => ?_⟩
      have := hc i (by omega)
      rw [Addr.add_lit] at this
      rw [this]; simp [List.getD, show i < len by omega]
    · have := bounds_i64 (hw z (List.mem_of_mem_take hzm)); exact ⟨this.1, this.2⟩
    · have : cap ≤ 9223372036854775807 := hm
      omega
theorem open_list {H α : Type} [Inhabited α] {enc : TypeId × Value → H} {w : World} {base fuel : Nat} {cs : List Value} {x : DataW H × List MemPlace} {It : World → (Nat → Prop) → α → List Value → Prop} {c : Nat} {S T : TypeId} {Wf : α → Prop}
    (hu : Tryd.prog.underlying S = some (.slice T)) (hc8 : Tryd.prog.cellsOf T = c) (hc0 : 0 < c)
    (item : ∀ m cs y, DataW.trod enc Tryd.prog w base (fun _ => true) true m T cs = some y → ∃ a : α, cs.length = c ∧ It w (fun _ => True) a cs ∧ Wf a)
    (h : DataW.trod enc Tryd.prog w base (fun _ => true) true fuel S cs = some x) : ∃ (l : List α) (v : Value), cs = [v] ∧ LL It c w (fun _ => True) l v ∧ (∀ a ∈ l, Wf a) ∧ l.length ≤ 9223372036854775807 := by
  rcases DataW.trod_slice hu h with ⟨hcs, hx⟩ | ⟨a, len, cap, elems, rest, n, hfn, hcs, hx, _, hl, hm, hel, hE, _, _⟩
  · exact ⟨[], _, hcs, LL_nil _ _ _ _, by simp, Nat.zero_le _⟩
  · rw [hc8] at hE
    obtain ⟨A, hA⟩ := Go.Deep.choose_lt (α := α) (n := len) (p := fun j i => (∃ cs, cs.length = c ∧ It w (fun _ => True) i cs ∧ ∀ k u, cs[k]? = some u → w.cell? ((a.add (j * c)).add k) = some u) ∧ Wf i) (fun j hj => by
      have h1 := hE j hj
      rw [List.getElem?_eq_getElem (show j < elems.length by omega)] at h1
      obtain ⟨cs', h2, h3⟩ := Option.bind_eq_some_iff.1 h1
      obtain ⟨_, hcl, hc⟩ := World.cells?_some h2
      obtain ⟨i, q1, q2, q3⟩ := item n cs' _ h3
      refine ⟨i, ⟨cs', q1, q2, fun k u hu => ?_⟩, q3⟩
      have hk := (List.getElem?_eq_some_iff.1 hu).1
      exact (hc k (by omega)).trans hu)
    have hll : ((List.range len).map A).length = len := by simp
    refine ⟨(List.range len).map A, .slice (some a) len cap, hcs, ⟨some a, cap, by rw [hll], by omega, by simp, fun h0 => ?_⟩, fun i hi => ?_, ?_⟩
    · obtain ⟨b, off, spot⟩ := a
      have hfirst : w.cell? ((Addr.add ⟨b, off, spot⟩ (0 * c)).add 0) ≠ none := by
        obtain ⟨⟨cs', h1, _, h2⟩, _⟩ := hA 0 (by omega)
        rw [h2 0 (cs'[0]'(by omega)) (List.getElem?_eq_getElem _)]; simp
      obtain ⟨u0, hu0⟩ := Option.ne_none_iff_exists'.1 hfirst
      have hsp : spot = none := by simpa [Addr.add] using World.cell?_spot hu0
      subst hsp
      have hblt : b < w.heap.size := by
        have : w.cell? ⟨b, off, none⟩ = some u0 := by simpa [Addr.add] using hu0
        exact block_lt_of_cell this
      refine ⟨b, off, rfl, trivial, hblt, fun j y hy => ?_⟩
      have hj : j < len := by have := (List.getElem?_eq_some_iff.1 hy).1; simpa using this
      obtain ⟨⟨cs', q1, q2, q3⟩, _⟩ := hA j hj
      have hAj : y = A j := by
        have := (List.getElem?_eq_some_iff.1 hy).2; rw [← this]; simp
      rw [hAj]
      refine ⟨cs', q1, q2, fun k u hu => ?_⟩
      have := q3 k u hu
      simp only [Addr.add_lit] at this
      exact this
    · obtain ⟨j, hj, rfl⟩ := List.getElem_of_mem hi
      have hAj : ((List.range len).map A)[j] = A j := by simp
      rw [hAj]
      exact (hA j (by simpa using hj)).2
    · have : cap ≤ 9223372036854775807 := hm
      rw [hll]; omega
theorem open_in {H : Type} {enc : TypeId × Value → H} {w : World} {base fuel : Nat} {cs : List Value} {d : DataW H × List MemPlace}
    (h : DataW.trod enc Tryd.prog w base (fun _ => true) true fuel 55 cs = some d) : ∃ x : In, cs.length = 5 ∧ InC w (fun _ => True) x cs ∧ WfI0 x := by
  obtain ⟨xs, n, hfn, hx, hl, hlen, hf⟩ := DataW.trod_struct Tryd.underlying55 h
  have hl8 : cs.length = 5 := hl.trans (by kernel_rfl)
  have hxl : xs.length = 5 := hlen
  have g0 := hf 0 _ rfl
  have g1 := hf 1 _ rfl
  have g2 := hf 2 _ rfl
  have g3 := hf 3 _ rfl
  have g4 := hf 4 _ rfl
  rw [List.getElem?_eq_getElem (by omega)] at g0 g1 g2 g3 g4
  have c0 : Tryd.prog.cellsOf 5 = 1 := by kernel_rfl
  have c1 : Tryd.prog.cellsOf 3 = 1 := by kernel_rfl
  have c2 : Tryd.prog.cellsOf 45 = 1 := by kernel_rfl
  have c3 : Tryd.prog.cellsOf 2 = 1 := by kernel_rfl
  have c4 : Tryd.prog.cellsOf 48 = 1 := by kernel_rfl
  obtain ⟨z0, e0, _, w0⟩ := DataW.trod_int Tryd.underlying5 g0
  obtain ⟨z1, e1, _, w1⟩ := DataW.trod_int Tryd.underlying3 g1
  obtain ⟨z2, v2, e2, q2, w2, k2⟩ := open_nums g2
  obtain ⟨z3, e3, _, w3⟩ := DataW.trod_int Tryd.underlying2 g3
  obtain ⟨z4, e4, _, w4⟩ := DataW.trod_int Tryd.underlying48 g4
  have f0 : (cs.drop 0).take (Tryd.prog.cellsOf 5) = [.int .u8 z0] := e0
  have f1 : (cs.drop 1).take (Tryd.prog.cellsOf 3) = [.int .i64 z1] := e1
  have f2 : (cs.drop 2).take (Tryd.prog.cellsOf 45) = [v2] := e2
  have f3 : (cs.drop 3).take (Tryd.prog.cellsOf 2) = [.int .i64 z3] := e3
  have f4 : (cs.drop 4).take (Tryd.prog.cellsOf 48) = [.int .u32 z4] := e4
  rw [c0] at f0; rw [c1] at f1; rw [c2] at f2; rw [c3] at f3; rw [c4] at f4
  have hcs := list5 hl8 (cell_at hl8 (by omega) f0) (cell_at hl8 (by omega) f1) (cell_at hl8 (by omega) f2) (cell_at hl8 (by omega) f3) (cell_at hl8 (by omega) f4)
  have b0 := bounds_u8 w0; have b1 := bounds_i64 w1; have b3 := bounds_i64 w3; have b4 := bounds_u32 w4
  obtain ⟨m0, rfl⟩ : ∃ m : Nat, z0 = m := ⟨z0.toNat, by omega⟩
  exact ⟨⟨m0, z1, z2, z3, z4⟩, hl8, ⟨v2, hcs, q2⟩, ⟨by show m0 < 256; omega, ⟨b1.1, b1.2⟩, w2, ⟨b3.1, b3.2⟩, b4.1, by show z4 ≤ 4294967295; omega, by show z2.length ≤ _; omega⟩⟩
theorem open_bl {H : Type} {enc : TypeId × Value → H} {w : World} {base fuel : Nat} {cs : List Value} {d : DataW H × List MemPlace}
    (h : DataW.trod enc Tryd.prog w base (fun _ => true) true fuel 54 cs = some d) : ∃ x : Bl, cs.length = 3 ∧ BlC w (fun _ => True) x cs ∧ WfB0 x := by
  haveI : Inhabited In := ⟨⟨0, 0, [], 0, 0⟩⟩
  obtain ⟨xs, n, hfn, hx, hl, hlen, hf⟩ := DataW.trod_struct Tryd.underlying54 h
  have hl8 : cs.length = 3 := hl.trans (by kernel_rfl)
  have hxl : xs.length = 3 := hlen
  have g0 := hf 0 _ rfl
  have g1 := hf 1 _ rfl
  have g2 := hf 2 _ rfl
  rw [List.getElem?_eq_getElem (by omega)] at g0 g1 g2
  have c0 : Tryd.prog.cellsOf 52 = 1 := by kernel_rfl
  have c1 : Tryd.prog.cellsOf 45 = 1 := by kernel_rfl
  have c2 : Tryd.prog.cellsOf 3 = 1 := by kernel_rfl
  obtain ⟨l0, v0, e0, q0, w0, k0⟩ := open_list (It := InC) (c := 5) (Wf := WfI0) Tryd.underlying52 (by kernel_rfl) (by decide) (fun m cs y hy => open_in hy) g0
  obtain ⟨z1, v1, e1, q1, w1, k1⟩ := open_nums g1
  obtain ⟨z2, e2, _, w2⟩ := DataW.trod_int Tryd.underlying3 g2
  have f0 : (cs.drop 0).take (Tryd.prog.cellsOf 52) = [v0] := e0
  have f1 : (cs.drop 1).take (Tryd.prog.cellsOf 45) = [v1] := e1
  have f2 : (cs.drop 2).take (Tryd.prog.cellsOf 3) = [.int .i64 z2] := e2
  rw [c0] at f0; rw [c1] at f1; rw [c2] at f2
  have hcs := list3 hl8 (cell_at hl8 (by omega) f0) (cell_at hl8 (by omega) f1) (cell_at hl8 (by omega) f2)
  have b2 := bounds_i64 w2
  exact ⟨⟨l0, z1, z2⟩, hl8, ⟨v0, v1, hcs, q0, q1⟩, ⟨w0, w1, ⟨b2.1, b2.2⟩, by show l0.length ≤ _; omega, by show z1.length ≤ _; omega⟩⟩
theorem Bls.low {w : World} {l : List Bl} {v : Value} (h : Bls w (fun _ => True) l v) : Bls w (fun k => k < w.heap.size) l v := h.moved (fun k hk _ => ⟨hk, rfl⟩) (Nat.le_refl _)
theorem open_co {H : Type} {enc : TypeId × Value → H} {w : World} {cs : Array Value} {d : DataW H} {p : List MemPlace}
    (h : DataW.Trod enc Tryd.prog w 0 (fun _ => true) true 24 (.agg cs) d p) : ∃ (c : Co) (v : Value), cs = #[.int .i64 c.pa, .int .i64 c.re, .bool c.rs, v] ∧ Bls w (fun k => k < w.heap.size) c.bl v ∧ WfC0 c := by
  haveI : Inhabited Bl := ⟨⟨[], [], 0⟩⟩
  obtain ⟨fuel, hf0⟩ := h
  obtain ⟨xs, n, hfn, hx, hl, hlen, hf⟩ := DataW.trod_struct Tryd.underlying24 hf0
  have hl8 : cs.toList.length = 4 := hl.trans (by kernel_rfl)
  have hxl : xs.length = 4 := hlen
  have g0 := hf 0 _ rfl
  have g1 := hf 1 _ rfl
  have g2 := hf 2 _ rfl
  have g3 := hf 3 _ rfl
  rw [List.getElem?_eq_getElem (by omega)] at g0 g1 g2 g3
  have c0 : Tryd.prog.cellsOf 3 = 1 := by kernel_rfl
  have c2 : Tryd.prog.cellsOf 4 = 1 := by kernel_rfl
  have c3 : Tryd.prog.cellsOf 22 = 1 := by kernel_rfl
  obtain ⟨z0, e0, _, w0⟩ := DataW.trod_int Tryd.underlying3 g0
  obtain ⟨z1, e1, _, w1⟩ := DataW.trod_int Tryd.underlying3 g1
  obtain ⟨z2, e2, _⟩ := DataW.trod_bool Tryd.underlying4 g2
  obtain ⟨l3, v3, e3, q3, w3, k3⟩ := open_list (It := BlC) (c := 3) (Wf := WfB0) Tryd.underlying22 (by kernel_rfl) (by decide) (fun m cs y hy => open_bl hy) g3
  have f0 : (cs.toList.drop 0).take (Tryd.prog.cellsOf 3) = [.int .i64 z0] := e0
  have f1 : (cs.toList.drop 1).take (Tryd.prog.cellsOf 3) = [.int .i64 z1] := e1
  have f2 : (cs.toList.drop 2).take (Tryd.prog.cellsOf 4) = [.bool z2] := e2
  have f3 : (cs.toList.drop 3).take (Tryd.prog.cellsOf 22) = [v3] := e3
  rw [c0] at f0 f1; rw [c2] at f2; rw [c3] at f3
  have hcs := list4 hl8 (cell_at hl8 (by omega) f0) (cell_at hl8 (by omega) f1) (cell_at hl8 (by omega) f2) (cell_at hl8 (by omega) f3)
  have b0 := bounds_i64 w0; have b1 := bounds_i64 w1
  refine ⟨⟨z0, z1, z2, l3⟩, v3, Array.ext' hcs, Bls.low q3, ⟨⟨b0.1, b0.2⟩, ⟨b1.1, b1.2⟩, w3, by show l3.length ≤ _; omega⟩⟩
end Vc
end Go.Proofs.YtgelkfmdkmopbaaDoor

/- From the rows' condition on ops' tables to what the walks ask of them. -/
namespace Go.Proofs.YtgelkfmdkmopbaaDoor
open Go.RowKit
set_option linter.unusedVariables false

theorem tc_of_head {P : Program} {W : World} {name : String} {d : DataW Unit} {rest : List (String × DataW Unit)} {g : Nat} {t : TypeId}
    (hg : P.globalNamed name = some g) (hty : (P.globals[g]?).map (·.type) = some t) (h : laidMet P ((name, d) :: rest) W) {vs : List Value}
    (hc : ∀ fuel (xs : List Value) p, DataW.trod (fun _ => ()) P W 0 (fun _ => true) false fuel t xs = some (d, p) → xs = vs) : TC W g vs := by
  obtain ⟨ps, ⟨g', t', cs', fuel, p, q, hg', ht', hvar, hd, _, _⟩, _⟩ := h
  obtain rfl := Option.some.inj (hg.symm.trans hg')
  obtain rfl := Option.some.inj (hty.symm.trans ht')
  have e := hc _ _ _ hd
  simp only [World.var?, hg, Option.bind_some] at hvar
  split at hvar
  · rename_i cs t fr hh
    obtain rfl := Option.some.inj hvar
    subst e
    exact ⟨(Array.getElem?_eq_some_iff.1 hh).1, t, fr, hh⟩
  · cases hvar

theorem flat_one {α : Type} (f : α → Value) : ∀ l : List α, (l.flatMap fun s => [f s]) = l.map f
  | [] => rfl
  | a :: l => by rw [List.flatMap_cons, flat_one f l]; rfl
theorem ts_of_tc {W : World} {g : Nat} {l : List (List UInt8)} (h : TC W g (l.flatMap fun s => [Value.string (str s)])) : TS W g l := by
  obtain ⟨_, t, fr, hr⟩ := h
  intro j s hj
  rw [cell_of_row W g j _ _ _ hr, flat_one]
  simp [hj]

theorem fam_of_trod {W : World} (fuel : Nat) (xs : List Value) (x : Fam) (p : List MemPlace)
    (h : DataW.trod (fun _ => ()) Tryd.prog W 0 (fun _ => true) false fuel 132 xs = some (.agg [.lit (.int .u8 x.f), .lit (.int .u8 x.l), .lit (.int .i64 x.o), .lit (.int .u8 x.x), .lit (.int .u8 x.y), .lit (.int .u8 x.g)], p)) : xs = fmC x := by
  obtain ⟨fs, hfs⟩ : ∃ fs, Tryd.prog.underlying 132 = some (.struct fs) := ⟨_, Tryd.underlying132⟩
  have hty : (Tryd.prog.underlying 132).map (fun d => match d with | .struct fs => fs.toList.map (fun f => (f.type, f.offset)) | _ => []) = some [(5, 0), (5, 1), (3, 2), (101, 3), (101, 4), (101, 5)] := by kernel_rfl
  rw [hfs] at hty
  simp only [Option.map_some, Option.some.injEq] at hty
  obtain ⟨ys, k, rfl, hx, hlen, hyl, hall⟩ := DataW.trod_struct hfs h
  rw [show Tryd.prog.cellsOf 132 = 6 by kernel_rfl] at hlen
  have hm : ys.map (·.1) = [DataW.lit (.int .u8 x.f), .lit (.int .u8 x.l), .lit (.int .i64 x.o), .lit (.int .u8 x.x), .lit (.int .u8 x.y), .lit (.int .u8 x.g)] := by
    have := congrArg Prod.fst hx
    simpa using this.symm
  have key : ∀ (i : Nat) (t : TypeId) (kd : IntKind) (z : Int), (fs.toList.map (fun f => (f.type, f.offset)))[i]? = some (t, i) → Tryd.prog.underlying t = some (.int kd) → Tryd.prog.cellsOf t = 1 → (ys.map (·.1))[i]? = some (DataW.lit (.int kd z)) → xs[i]? = some (.int kd z) := by
    intro i t kd z e1 e2 e3 e4
    simp only [List.getElem?_map, Option.map_eq_some_iff] at e1 e4
    obtain ⟨f, hf, hft⟩ := e1
    obtain ⟨y, hy, hy1⟩ := e4
    have h1 := hall i f (by simpa using hf)
    have ht : f.type = t := congrArg Prod.fst hft
    have ho : f.offset = i := congrArg Prod.snd hft
    rw [ht, ho, e3, hy] at h1
    obtain ⟨y1, y2⟩ := y
    simp only at hy1
    subst hy1
    have := int_of_trod e2 _ _ _ _ h1
    have := congrArg (·[0]?) this
    simpa [List.getElem?_take, List.getElem?_drop] using this
  have u8 : Tryd.prog.underlying 5 = some (.int .u8) := by kernel_rfl
  have ui : Tryd.prog.underlying 3 = some (.int .i64) := by kernel_rfl
  have uk : Tryd.prog.underlying 101 = some (.int .u8) := by kernel_rfl
  have s8 : Tryd.prog.cellsOf 5 = 1 := by kernel_rfl
  have si : Tryd.prog.cellsOf 3 = 1 := by kernel_rfl
  have sk : Tryd.prog.cellsOf 101 = 1 := by kernel_rfl
  rw [hty, hm] at key
  have k0 := key 0 _ _ _ rfl u8 s8 rfl
  have k1 := key 1 _ _ _ rfl u8 s8 rfl
  have k2 := key 2 _ _ _ rfl ui si rfl
  have k3 := key 3 _ _ _ rfl uk sk rfl
  have k4 := key 4 _ _ _ rfl uk sk rfl
  have k5 := key 5 _ _ _ rfl uk sk rfl
  clear key hall hx h hm hty hfs
  match xs, hlen with
  | [a, b, c, d, e, f], _ =>
    simp at k0 k1 k2 k3 k4 k5
    subst k0 k1 k2 k3 k4 k5
    rfl

theorem names_laid {W : World} {rest : List (String × DataW Unit)} (h : laidMet Tryd.prog (("mandrel/ops.names", Rows.laid_mandrel_ops_names) :: rest) W) : TS W 1 nms := by
  have h' : laidMet Tryd.prog (("mandrel/ops.names", .agg (nms.map fun s => .lit (.string s))) :: rest) W := h
  exact ts_of_tc (tc_of_head (t := 141) (by kernel_rfl) (by kernel_rfl) h' fun fuel xs p hp => cells_of_arr (n := 67) (fun s => .lit (.string s)) (fun s => [Value.string (str s)]) (str_of_trod (e := 9) (by kernel_rfl)) (by kernel_rfl) (m := 1) (by kernel_rfl) (by kernel_rfl) hp)
theorem tests_laid {W : World} {rest : List (String × DataW Unit)} (h : laidMet Tryd.prog (("mandrel/ops.testNames", Rows.laid_mandrel_ops_testNames) :: rest) W) : TS W 2 tns := by
  have h' : laidMet Tryd.prog (("mandrel/ops.testNames", .agg (tns.map fun s => .lit (.string s))) :: rest) W := h
  exact ts_of_tc (tc_of_head (t := 142) (by kernel_rfl) (by kernel_rfl) h' fun fuel xs p hp => cells_of_arr (n := 22) (fun s => .lit (.string s)) (fun s => [Value.string (str s)]) (str_of_trod (e := 9) (by kernel_rfl)) (by kernel_rfl) (m := 1) (by kernel_rfl) (by kernel_rfl) hp)
theorem reckons_laid {W : World} {rest : List (String × DataW Unit)} (h : laidMet Tryd.prog (("mandrel/ops.reckonNames", Rows.laid_mandrel_ops_reckonNames) :: rest) W) : TS W 3 rns := by
  have h' : laidMet Tryd.prog (("mandrel/ops.reckonNames", .agg (rns.map fun s => .lit (.string s))) :: rest) W := h
  exact ts_of_tc (tc_of_head (t := 143) (by kernel_rfl) (by kernel_rfl) h' fun fuel xs p hp => cells_of_arr (n := 36) (fun s => .lit (.string s)) (fun s => [Value.string (str s)]) (str_of_trod (e := 9) (by kernel_rfl)) (by kernel_rfl) (m := 1) (by kernel_rfl) (by kernel_rfl) hp)
theorem families_laid {W : World} {rest : List (String × DataW Unit)} (h : laidMet Tryd.prog (("mandrel/ops.families", Rows.laid_mandrel_ops_families) :: rest) W) : TC W 4 fmV := by
  have h' : laidMet Tryd.prog (("mandrel/ops.families", .agg (fms.map fun x => .agg [.lit (.int .u8 x.f), .lit (.int .u8 x.l), .lit (.int .i64 x.o), .lit (.int .u8 x.x), .lit (.int .u8 x.y), .lit (.int .u8 x.g)])) :: rest) W := h
  exact tc_of_head (t := 150) (by kernel_rfl) (by kernel_rfl) h' fun fuel xs p hp => cells_of_arr (n := 32) (e := 132) (m := 6) (fun x : Fam => .agg [.lit (.int .u8 x.f), .lit (.int .u8 x.l), .lit (.int .i64 x.o), .lit (.int .u8 x.x), .lit (.int .u8 x.y), .lit (.int .u8 x.g)]) fmC
    fam_of_trod (by kernel_rfl) (by kernel_rfl) (by kernel_rfl) hp
theorem pow_laid {W : World} {rest : List (String × DataW Unit)} (h : laidMet Tryd.prog (("internal/strconv.uint64pow10", Rows.laid_internal_strconv_uint64pow10) :: rest) W) : Vc.P10 W := by
  have h' : laidMet Tryd.prog (("internal/strconv.uint64pow10", Lib.tabData .u64 Lib.pow10Tab) :: rest) W := h
  have hg : Tryd.prog.globalNamed "internal/strconv.uint64pow10" = some 5 := by kernel_rfl
  exact Lib.tabIs_of_head hg (t := 154) (e := 77) (n := 20) (by kernel_rfl) (by kernel_rfl) (by kernel_rfl) (by kernel_rfl) (by kernel_rfl) h'
end Go.Proofs.YtgelkfmdkmopbaaDoor

/- From the rows' condition on errors.errorType (beside other variables) to the variable's cell. After the guide's worked toy of errors.As. -/
namespace Go.Proofs.YtgelkfmdkmopbaaDoor
open Go.ChangeShapes Go.WideShapes Go.RowKit

theorem hownKnob : ownKnob Tryd.prog.godebug = none := by kernel_rfl
theorem het : Tryd.prog.globalNamed "errors.errorType" = some 0 := by kernel_rfl
theorem honeRow : ((List.range 189).filter fun t => Tryd.prog.rowNamed t [101, 114, 114, 111, 114]) = [32] := by kernel_rfl
theorem hsize : Tryd.prog.types.size = 189 := by kernel_rfl

theorem handle_of_met {W : World} (h : handlesMet Tryd.prog [("errors.errorType", Rows.laid_errors_errorType)] W) : ErrT W := by
  obtain ⟨name, u, ty, e1, e2, e3, e4, e5⟩ := h _ (List.mem_singleton.2 rfl)
  have en : name = [101, 114, 114, 111, 114] := (Option.some.inj e1).symm
  subst en
  obtain rfl : 114 = u := Option.some.inj (Eq.trans (by kernel_rfl) e2)
  have hm : ty ∈ (List.range 189).filter fun t => Tryd.prog.rowNamed t [101, 114, 114, 111, 114] := List.mem_filter.2 ⟨List.mem_range.2 (by rw [← hsize]; exact e3), e4⟩
  rw [honeRow] at hm
  obtain rfl := List.mem_singleton.1 hm
  have hh : typeHandle Tryd.prog 32 = .pointer (some ⟨8, 32, none⟩) := by kernel_rfl
  rw [hh] at e5
  have := World.var?_cell het e5 0
  unfold ErrT
  simpa using this
end Go.Proofs.YtgelkfmdkmopbaaDoor

/- VcodeChecks returns true for every code, and leaves it: whether it may be, how many instructions it has, and its lines, are what the document says, or the errors are. Of ops' tables, of internal/strconv's powers of ten, of two tables of math/bits and of errors.errorType it takes what the program's text lays (the card ties it). -/
namespace Go.Proofs.YtgelkfmdkmopbaaDoor.vcodeChecks
open Go.ChangeShapes Go.WideShapes Go.ChangeAt Go.RowKit
set_option linter.unusedVariables false

theorem own : ownKnob Tryd.prog.godebug = none := by kernel_rfl
theorem laidOut : laidOutB Tryd.prog = true := by kernel_rfl

theorem walk (c0 : Vc.Co) (x0 : Value) (w : World) (hErr : ErrT w) (hTb : Tb w) (hPow : Vc.P10 w) (h0 : Vc.Bls w (fun k => k < w.heap.size) c0.bl x0) (f0 : Vc.WfC0 c0) :
    Calls Tryd.prog 3 #[.agg #[.int .i64 c0.pa, .int .i64 c0.re, .bool c0.rs, x0]] w fun e w' => e = .returned (.bool true) ∧ Below w.heap.size w w' := by
  exact Vc.checks_walk c0 f0 x0 w hTb.2 hTb.1 hPow hErr h0

noncomputable def laidWorld (os : Os) : World := ({ World.holding Tryd.prog os ⟨#[], #[], []⟩ with heap := (((((((((World.holding Tryd.prog os ⟨#[], #[], []⟩).heap.modify 6 fun | .cells _ t frozen => .cells #[.int .u8 0, .int .u8 1, .int .u8 28, .int .u8 2, .int .u8 29, .int .u8 14, .int .u8 24, .int .u8 3, .int .u8 30, .int .u8 22, .int .u8 20, .int .u8 15, .int .u8 25, .int .u8 17, .int .u8 4, .int .u8 8, .int .u8 31, .int .u8 27, .int .u8 13, .int .u8 23, .int .u8 21, .int .u8 19, .int .u8 16, .int .u8 7, .int .u8 26, .int .u8 12, .int .u8 18, .int .u8 6, .int .u8 11, .int .u8 5, .int .u8 10, .int .u8 9] t frozen | o => o).modify 7 fun | .cells _ t frozen => .cells #[.int .u8 0, .int .u8 1, .int .u8 56, .int .u8 2, .int .u8 57, .int .u8 49, .int .u8 28, .int .u8 3, .int .u8 61, .int .u8 58, .int .u8 42, .int .u8 50, .int .u8 38, .int .u8 29, .int .u8 17, .int .u8 4, .int .u8 62, .int .u8 47, .int .u8 59, .int .u8 36, .int .u8 45, .int .u8 43, .int .u8 51, .int .u8 22, .int .u8 53, .int .u8 39, .int .u8 33, .int .u8 30, .int .u8 24, .int .u8 18, .int .u8 12, .int .u8 5, .int .u8 63, .int .u8 55, .int .u8 48, .int .u8 27, .int .u8 60, .int .u8 41, .int .u8 37, .int .u8 16, .int .u8 46, .int .u8 35, .int .u8 44, .int .u8 21, .int .u8 52, .int .u8 32, .int .u8 23, .int .u8 11, .int .u8 54, .int .u8 26, .int .u8 40, .int .u8 15, .int .u8 34, .int .u8 20, .int .u8 31, .int .u8 10, .int .u8 25, .int .u8 14, .int .u8 19, .int .u8 9, .int .u8 13, .int .u8 8, .int .u8 7, .int .u8 6] t frozen | o => o).modify 5 fun | .cells _ t frozen => .cells #[.int .u64 1, .int .u64 10, .int .u64 100, .int .u64 1000, .int .u64 10000, .int .u64 100000, .int .u64 1000000, .int .u64 10000000, .int .u64 100000000, .int .u64 1000000000, .int .u64 10000000000, .int .u64 100000000000, .int .u64 1000000000000, .int .u64 10000000000000, .int .u64 100000000000000, .int .u64 1000000000000000, .int .u64 10000000000000000, .int .u64 100000000000000000, .int .u64 1000000000000000000, .int .u64 10000000000000000000] t frozen | o => o).modify 0 fun | .cells _ t frozen => .cells #[.iface 114 (.agg #[.pointer (some ⟨8, 32, none⟩)])] t frozen | o => o).modify 1 fun | .cells _ t frozen => .cells #[.string ⟨#[117, 110, 114, 101, 97, 99, 104, 97, 98, 108, 101]⟩, .string ⟨#[110, 111, 112]⟩, .string ⟨#[98, 108, 111, 99, 107]⟩, .string ⟨#[108, 111, 111, 112]⟩, .string ⟨#[105, 102]⟩, .string ⟨#[]⟩, .string ⟨#[]⟩, .string ⟨#[]⟩, .string ⟨#[]⟩, .string ⟨#[]⟩, .string ⟨#[]⟩, .string ⟨#[]⟩, .string ⟨#[98, 114]⟩, .string ⟨#[98, 114, 95, 105, 102]⟩, .string ⟨#[98, 114, 95, 116, 97, 98, 108, 101]⟩, .string ⟨#[114, 101, 116, 117, 114, 110]⟩, .string ⟨#[99, 97, 108, 108]⟩, .string ⟨#[99, 97, 108, 108, 95, 105, 110, 100, 105, 114, 101, 99, 116]⟩, .string ⟨#[]⟩, .string ⟨#[]⟩, .string ⟨#[]⟩, .string ⟨#[]⟩, .string ⟨#[]⟩, .string ⟨#[]⟩, .string ⟨#[]⟩, .string ⟨#[]⟩, .string ⟨#[100, 114, 111, 112]⟩, .string ⟨#[115, 101, 108, 101, 99, 116]⟩, .string ⟨#[]⟩, .string ⟨#[]⟩, .string ⟨#[]⟩, .string ⟨#[]⟩, .string ⟨#[108, 111, 99, 97, 108, 46, 103, 101, 116]⟩, .string ⟨#[108, 111, 99, 97, 108, 46, 115, 101, 116]⟩, .string ⟨#[108, 111, 99, 97, 108, 46, 116, 101, 101]⟩, .string ⟨#[103, 108, 111, 98, 97, 108, 46, 103, 101, 116]⟩, .string ⟨#[103, 108, 111, 98, 97, 108, 46, 115, 101, 116]⟩, .string ⟨#[]⟩, .string ⟨#[]⟩, .string ⟨#[]⟩, .string ⟨#[105, 51, 50, 46, 108, 111, 97, 100]⟩, .string ⟨#[105, 54, 52, 46, 108, 111, 97, 100]⟩, .string ⟨#[]⟩, .string ⟨#[]⟩, .string ⟨#[105, 51, 50, 46, 108, 111, 97, 100, 56, 95, 115]⟩, .string ⟨#[105, 51, 50, 46, 108, 111, 97, 100, 56, 95, 117]⟩, .string ⟨#[105, 51, 50, 46, 108, 111, 97, 100, 49, 54, 95, 115]⟩, .string ⟨#[105, 51, 50, 46, 108, 111, 97, 100, 49, 54, 95, 117]⟩, .string ⟨#[105, 54, 52, 46, 108, 111, 97, 100, 56, 95, 115]⟩, .string ⟨#[105, 54, 52, 46, 108, 111, 97, 100, 56, 95, 117]⟩, .string ⟨#[105, 54, 52, 46, 108, 111, 97, 100, 49, 54, 95, 115]⟩, .string ⟨#[105, 54, 52, 46, 108, 111, 97, 100, 49, 54, 95, 117]⟩, .string ⟨#[105, 54, 52, 46, 108, 111, 97, 100, 51, 50, 95, 115]⟩, .string ⟨#[105, 54, 52, 46, 108, 111, 97, 100, 51, 50, 95, 117]⟩, .string ⟨#[105, 51, 50, 46, 115, 116, 111, 114, 101]⟩, .string ⟨#[105, 54, 52, 46, 115, 116, 111, 114, 101]⟩, .string ⟨#[]⟩, .string ⟨#[]⟩, .string ⟨#[105, 51, 50, 46, 115, 116, 111, 114, 101, 56]⟩, .string ⟨#[105, 51, 50, 46, 115, 116, 111, 114, 101, 49, 54]⟩, .string ⟨#[105, 54, 52, 46, 115, 116, 111, 114, 101, 56]⟩, .string ⟨#[105, 54, 52, 46, 115, 116, 111, 114, 101, 49, 54]⟩, .string ⟨#[105, 54, 52, 46, 115, 116, 111, 114, 101, 51, 50]⟩, .string ⟨#[109, 101, 109, 111, 114, 121, 46, 115, 105, 122, 101]⟩, .string ⟨#[109, 101, 109, 111, 114, 121, 46, 103, 114, 111, 119]⟩, .string ⟨#[105, 51, 50, 46, 99, 111, 110, 115, 116]⟩, .string ⟨#[105, 54, 52, 46, 99, 111, 110, 115, 116]⟩] t frozen | o => o).modify 2 fun | .cells _ t frozen => .cells #[.string ⟨#[105, 51, 50, 46, 101, 113, 122]⟩, .string ⟨#[105, 51, 50, 46, 101, 113]⟩, .string ⟨#[105, 51, 50, 46, 110, 101]⟩, .string ⟨#[105, 51, 50, 46, 108, 116, 95, 115]⟩, .string ⟨#[105, 51, 50, 46, 108, 116, 95, 117]⟩, .string ⟨#[105, 51, 50, 46, 103, 116, 95, 115]⟩, .string ⟨#[105, 51, 50, 46, 103, 116, 95, 117]⟩, .string ⟨#[105, 51, 50, 46, 108, 101, 95, 115]⟩, .string ⟨#[105, 51, 50, 46, 108, 101, 95, 117]⟩, .string ⟨#[105, 51, 50, 46, 103, 101, 95, 115]⟩, .string ⟨#[105, 51, 50, 46, 103, 101, 95, 117]⟩, .string ⟨#[105, 54, 52, 46, 101, 113, 122]⟩, .string ⟨#[105, 54, 52, 46, 101, 113]⟩, .string ⟨#[105, 54, 52, 46, 110, 101]⟩, .string ⟨#[105, 54, 52, 46, 108, 116, 95, 115]⟩, .string ⟨#[105, 54, 52, 46, 108, 116, 95, 117]⟩, .string ⟨#[105, 54, 52, 46, 103, 116, 95, 115]⟩, .string ⟨#[105, 54, 52, 46, 103, 116, 95, 117]⟩, .string ⟨#[105, 54, 52, 46, 108, 101, 95, 115]⟩, .string ⟨#[105, 54, 52, 46, 108, 101, 95, 117]⟩, .string ⟨#[105, 54, 52, 46, 103, 101, 95, 115]⟩, .string ⟨#[105, 54, 52, 46, 103, 101, 95, 117]⟩] t frozen | o => o).modify 3 fun | .cells _ t frozen => .cells #[.string ⟨#[105, 51, 50, 46, 99, 108, 122]⟩, .string ⟨#[105, 51, 50, 46, 99, 116, 122]⟩, .string ⟨#[105, 51, 50, 46, 112, 111, 112, 99, 110, 116]⟩, .string ⟨#[105, 51, 50, 46, 97, 100, 100]⟩, .string ⟨#[105, 51, 50, 46, 115, 117, 98]⟩, .string ⟨#[105, 51, 50, 46, 109, 117, 108]⟩, .string ⟨#[105, 51, 50, 46, 100, 105, 118, 95, 115]⟩, .string ⟨#[105, 51, 50, 46, 100, 105, 118, 95, 117]⟩, .string ⟨#[105, 51, 50, 46, 114, 101, 109, 95, 115]⟩, .string ⟨#[105, 51, 50, 46, 114, 101, 109, 95, 117]⟩, .string ⟨#[105, 51, 50, 46, 97, 110, 100]⟩, .string ⟨#[105, 51, 50, 46, 111, 114]⟩, .string ⟨#[105, 51, 50, 46, 120, 111, 114]⟩, .string ⟨#[105, 51, 50, 46, 115, 104, 108]⟩, .string ⟨#[105, 51, 50, 46, 115, 104, 114, 95, 115]⟩, .string ⟨#[105, 51, 50, 46, 115, 104, 114, 95, 117]⟩, .string ⟨#[105, 51, 50, 46, 114, 111, 116, 108]⟩, .string ⟨#[105, 51, 50, 46, 114, 111, 116, 114]⟩, .string ⟨#[105, 54, 52, 46, 99, 108, 122]⟩, .string ⟨#[105, 54, 52, 46, 99, 116, 122]⟩, .string ⟨#[105, 54, 52, 46, 112, 111, 112, 99, 110, 116]⟩, .string ⟨#[105, 54, 52, 46, 97, 100, 100]⟩, .string ⟨#[105, 54, 52, 46, 115, 117, 98]⟩, .string ⟨#[105, 54, 52, 46, 109, 117, 108]⟩, .string ⟨#[105, 54, 52, 46, 100, 105, 118, 95, 115]⟩, .string ⟨#[105, 54, 52, 46, 100, 105, 118, 95, 117]⟩, .string ⟨#[105, 54, 52, 46, 114, 101, 109, 95, 115]⟩, .string ⟨#[105, 54, 52, 46, 114, 101, 109, 95, 117]⟩, .string ⟨#[105, 54, 52, 46, 97, 110, 100]⟩, .string ⟨#[105, 54, 52, 46, 111, 114]⟩, .string ⟨#[105, 54, 52, 46, 120, 111, 114]⟩, .string ⟨#[105, 54, 52, 46, 115, 104, 108]⟩, .string ⟨#[105, 54, 52, 46, 115, 104, 114, 95, 115]⟩, .string ⟨#[105, 54, 52, 46, 115, 104, 114, 95, 117]⟩, .string ⟨#[105, 54, 52, 46, 114, 111, 116, 108]⟩, .string ⟨#[105, 54, 52, 46, 114, 111, 116, 114]⟩] t frozen | o => o).modify 4 fun | .cells _ t frozen => .cells #[.int .u8 0, .int .u8 1, .int .i64 0, .int .u8 0, .int .u8 0, .int .u8 0, .int .u8 2, .int .u8 3, .int .i64 6, .int .u8 0, .int .u8 0, .int .u8 0, .int .u8 4, .int .u8 4, .int .i64 7, .int .u8 0, .int .u8 0, .int .u8 0, .int .u8 12, .int .u8 13, .int .i64 3, .int .u8 0, .int .u8 0, .int .u8 0, .int .u8 14, .int .u8 14, .int .i64 8, .int .u8 0, .int .u8 0, .int .u8 0, .int .u8 15, .int .u8 15, .int .i64 0, .int .u8 0, .int .u8 0, .int .u8 0, .int .u8 16, .int .u8 16, .int .i64 3, .int .u8 0, .int .u8 0, .int .u8 0, .int .u8 17, .int .u8 17, .int .i64 9, .int .u8 0, .int .u8 0, .int .u8 0, .int .u8 26, .int .u8 27, .int .i64 0, .int .u8 0, .int .u8 0, .int .u8 0, .int .u8 32, .int .u8 36, .int .i64 3, .int .u8 0, .int .u8 0, .int .u8 0, .int .u8 40, .int .u8 40, .int .i64 4, .int .u8 127, .int .u8 0, .int .u8 127, .int .u8 41, .int .u8 41, .int .i64 4, .int .u8 127, .int .u8 0, .int .u8 126, .int .u8 44, .int .u8 47, .int .i64 4, .int .u8 127, .int .u8 0, .int .u8 127, .int .u8 48, .int .u8 53, .int .i64 4, .int .u8 127, .int .u8 0, .int .u8 126, .int .u8 54, .int .u8 54, .int .i64 4, .int .u8 127, .int .u8 127, .int .u8 0, .int .u8 55, .int .u8 55, .int .i64 4, .int .u8 127, .int .u8 126, .int .u8 0, .int .u8 58, .int .u8 59, .int .i64 4, .int .u8 127, .int .u8 127, .int .u8 0, .int .u8 60, .int .u8 62, .int .i64 4, .int .u8 127, .int .u8 126, .int .u8 0, .int .u8 63, .int .u8 63, .int .i64 5, .int .u8 0, .int .u8 0, .int .u8 127, .int .u8 64, .int .u8 64, .int .i64 5, .int .u8 127, .int .u8 0, .int .u8 127, .int .u8 65, .int .u8 65, .int .i64 1, .int .u8 0, .int .u8 0, .int .u8 127, .int .u8 66, .int .u8 66, .int .i64 2, .int .u8 0, .int .u8 0, .int .u8 126, .int .u8 69, .int .u8 69, .int .i64 0, .int .u8 127, .int .u8 0, .int .u8 127, .int .u8 70, .int .u8 79, .int .i64 0, .int .u8 127, .int .u8 127, .int .u8 127, .int .u8 80, .int .u8 80, .int .i64 0, .int .u8 126, .int .u8 0, .int .u8 127, .int .u8 81, .int .u8 90, .int .i64 0, .int .u8 126, .int .u8 126, .int .u8 127, .int .u8 103, .int .u8 105, .int .i64 0, .int .u8 127, .int .u8 0, .int .u8 127, .int .u8 106, .int .u8 120, .int .i64 0, .int .u8 127, .int .u8 127, .int .u8 127, .int .u8 121, .int .u8 123, .int .i64 0, .int .u8 126, .int .u8 0, .int .u8 126, .int .u8 124, .int .u8 138, .int .i64 0, .int .u8 126, .int .u8 126, .int .u8 126, .int .u8 167, .int .u8 167, .int .i64 0, .int .u8 126, .int .u8 0, .int .u8 127, .int .u8 172, .int .u8 173, .int .i64 0, .int .u8 127, .int .u8 0, .int .u8 126] t frozen | o => o) } : World)
set_option maxRecDepth 100000 in
theorem laid_met (os : Os) (args : Array Value) : laidMetH Tryd.prog Rows.vcodeChecksRow.laid ((laidWorld os).forCall (fun _ _ => 0) ⟨#[], args, []⟩).memory :=
  laidMetH_of_parts (laidMet_of_run' 8 (by kernel_rfl) (by kernel_rfl)) (by kernel_rfl)

set_option maxRecDepth 100000 in
theorem lifted (os : Os) (started : os.Started) (H : Type) (enc : TypeId × Value → H) :
    ReturnsInHanded {} Tryd.checked os 3 .any (fun w args => (Rows.vcodeChecksSpec.pre enc Tryd.prog Tryd.f3 [] false w args ∧ laidMetH Tryd.prog Rows.vcodeChecksRow.laid w) ∧ sizedMet enc Tryd.prog Tryd.f3 (OpenSpec.ofChange Rows.vcodeChecksSpec) false w args) (Rows.vcodeChecksSpec.post enc Tryd.prog Tryd.f3 false true false false) := by
  refine returnsInHanded_of_change_and (C := Tryd.checked) (X := fun w _ => laidMetH Tryd.prog Rows.vcodeChecksRow.laid w) (fun _ _ _ hh h => h.of_heap hh) own started (by kernel_rfl) Tryd.func3
    (ChangeSpec.witness_at (enc := enc) (C := Tryd.checked) (os := os) (X := fun w _ => laidMetH Tryd.prog Rows.vcodeChecksRow.laid w) false (laidWorld os) #[.agg #[.int .i64 0, .int .i64 0, .bool false, .slice none 0 0]] 8 rfl (by kernel_rfl) (by kernel_rfl) (by kernel_rfl) (by kernel_rfl) (by kernel_rfl) (laid_met os _)) ?_
  intro W base args ds gs before hval0 hW _ _ hL _
  have hLL0 : laidMet Tryd.prog [("math/bits.deBruijn32tab", Rows.laid_math_bits_deBruijn32tab), ("math/bits.deBruijn64tab", Rows.laid_math_bits_deBruijn64tab), ("internal/strconv.uint64pow10", Rows.laid_internal_strconv_uint64pow10), ("mandrel/ops.names", Rows.laid_mandrel_ops_names), ("mandrel/ops.testNames", Rows.laid_mandrel_ops_testNames), ("mandrel/ops.reckonNames", Rows.laid_mandrel_ops_reckonNames), ("mandrel/ops.families", Rows.laid_mandrel_ops_families)] W ∧ handlesMet Tryd.prog [("errors.errorType", Rows.laid_errors_errorType)] W := hL
  have hg : ErrT W := handle_of_met hLL0.2
  have hLL := hLL0.1
  have hgTb : Tb W := ⟨⟨names_laid hLL.tail.tail.tail, tests_laid hLL.tail.tail.tail.tail, reckons_laid hLL.tail.tail.tail.tail.tail⟩, families_laid hLL.tail.tail.tail.tail.tail.tail⟩
  have hgP : Vc.P10 W := pow_laid hLL.tail.tail
  have hval : ∀ (j : Nat) t v, Tryd.f3.params[j]? = some t → args[j]? = some v → Value.okWide Tryd.prog W .any base t v := hval0
  have hW' := hW
  obtain ⟨p, q, hA0, hV, rfl, hfz, hnd⟩ := hW
  have hA : DataW.TrodAll enc Tryd.prog W 0 (fun _ => true) true Tryd.f3.params.toList args.toList ds p := hA0
  rw [Tryd.params3] at hA hval
  obtain ⟨v0, vs0, d0, ds0, p0, q0, hargs, rfl, rfl, h0, r0⟩ := trodAll_cons hA
  obtain ⟨rfl, rfl, rfl⟩ := trodAll_nil r0
  obtain rfl : args = #[v0] := by cases args; simp_all
  obtain ⟨rfl, rfl⟩ := trodVars_none hV
  have m0 := h0
  have lt0 : ∀ x ∈ p0, x.block < W.heap.size := by obtain ⟨m, hm⟩ := m0; exact DataW.trod_lt m _ _ _ hm
  obtain ⟨cs0, hcs0, _⟩ := okWide_struct Tryd.underlying24 (hval 0 24 v0 rfl rfl)
  subst hcs0
  obtain ⟨c0, x0, rfl, h0c, f0⟩ := Vc.open_co h0
  clear hA0 hval0
  refine (walk c0 x0 W hg hgTb hgP h0c f0).mono fun e W' ⟨he, bel⟩ => ?_
  subst he
  exact ⟨_, rfl, _, _, _, [], _, [], hW', trodAll_mk1 (shut_bool Tryd.underlying4 _), (trodAll_cons_mk (Below.trod laidOut (by kernel_rfl) (of_decide_eq_true (by kernel_rfl)) m0 bel lt0) trodAll_mk0), rfl, bel.frame _, fun h => by cases h⟩

theorem proved : Rows.VcodeChecksSaid :=
  OpenClaim.holds_of_wide 3 Tryd.f3 rfl rfl rfl rfl rfl rfl rfl ⟨rfl, rfl, rfl, rfl, rfl⟩ rfl rfl rfl rfl rfl (by kernel_rfl) Tryd.func3 (by kernel_rfl)
    (of_decide_eq_true (by kernel_rfl)) (by unfold Func.isWrapper; first | (rw [if_pos (by decide +kernel)]; kernel_rfl) | (rw [if_neg (by decide +kernel)]; exact ⟨rfl, rfl⟩))
    (fun os started H enc _ => lifted os started H enc)
end Go.Proofs.YtgelkfmdkmopbaaDoor.vcodeChecks

namespace Go.Proofs.YtgelkfmdkmopbaaDoor
theorem vcodeChecks_card : Rows.VcodeChecksCardSaid :=
  Claim7.holds_tied_plain_at .later [] _ _ _ _ vcodeChecks.proved (fun _ h => by cases h) (by kernel_rfl) (fun _ h => by cases h) vcodeChecks_row_tie rfl ⟨rfl, rfl⟩ (by kernel_rfl) rfl
    (fun f fn hf hfn => by
      obtain rfl : 3 = f := Option.some.inj (Eq.trans (by kernel_rfl) hf)
      obtain rfl : fn = Tryd.f3 := (Option.some.inj (Tryd.func3.symm.trans hfn)).symm
      exact ⟨by kernel_rfl, fun j t ht => by
        rw [Tryd.params3] at ht
        rcases j with _ | j
        · obtain rfl : t = 24 := by simpa using ht.symm
          exact (show Tryd.prog.wantsStandIn 24 = false by kernel_rfl)
        · simp at ht⟩)
    (by kernel_rfl)
end Go.Proofs.YtgelkfmdkmopbaaDoor
