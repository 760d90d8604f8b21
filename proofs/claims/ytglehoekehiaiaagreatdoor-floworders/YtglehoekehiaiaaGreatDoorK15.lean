/- vcode.Same: slices.Equal of numbers, sameIns, slices.EqualFunc, sameBlock. By mkvsame.py. -/
import Derived.Test.YtglehoekehiaiaaGreatDoorK2
namespace Go.Proofs.YtglehoekehiaiaaGreatDoor
open Go.RowKit
set_option linter.unusedVariables false
set_option linter.unusedSimpArgs false
set_option maxRecDepth 100000
set_option maxHeartbeats 32000000
namespace Vc
theorem ls_ne {la lb : List Int} (j : Nat) (h : ¬ la.getD j 0 = lb.getD j 0) : (la == lb) = false := by
 rw [beq_eq_false_iff_ne]; rintro rfl; exact h rfl
theorem ls_eq {la lb : List Int} (hl : la.length = lb.length) (h : ∀ i, i < la.length → la.getD i 0 = lb.getD i 0) : (la == lb) = true := by
 rw [beq_iff_eq]
 refine List.ext_getElem hl fun j h1 h2 => ?_
 have := h j h1
 simpa [List.getD, List.getElem?_eq_getElem h1, List.getElem?_eq_getElem h2] using this
theorem eqi_any {g g2 : Nat → Prop} {va vb : Value} {la lb : List Int} {w : World} (ha : NumsL w g la va) (hb : NumsL w g2 lb vb) (h1 : la.length ≤ 1099511627776) (h2 : lb.length ≤ 1099511627776) :
    Calls Tryz.prog 77 #[va, vb] w fun e w' => e = .returned (.bool (la == lb)) ∧ Below w.heap.size w w' := by
 obtain ⟨a, ca, rfl, hca, _, hA⟩ := ha
 obtain ⟨b, cb, rfl, hcb, _, hB⟩ := hb
 by_cases hl : la.length = lb.length
 ·rw [← hl] at hB hcb ⊢
  have heq := fun h => ls_eq hl h
  have HEq := hide heq; have HL := hide hl; clear heq hl h2
  by_cases h0 : 0 < la.length
  ·obtain ⟨ba, oa, rfl, _, hla⟩ := hA h0
   obtain ⟨bb, ob, rfl, _, hlb⟩ := hB h0
   have HLa := hide hla; have HLb := hide hlb
   clear hA hB hla hlb
   have hne := fun j h => ls_ne (la := la) (lb := lb) j h
   have HNe := hide hne; clear hne
   unfold Nums at HLa HLb
   generalize hn : la.length = n at *
   have HN := hide hn; clear hn
   go_enter Tryz.func77, Tryz.ntmps77
   go_wp2_with fail
   go_loopw [13] (fun c wr => ∃ j : Nat, c = .int .i64 j ∧ (j : Int) ≤ n ∧ (∀ i, i < j → la.getD i 0 = lb.getD i 0) ∧ ∃ k, wr = w.drewN k) (fun c _ => n - (intOf c).toNat)
   case atStart => exact ⟨0, rfl, by omega, fun i hi => absurd hi (by omega), 0, rfl⟩
   case round =>
    obtain ⟨j, rfl, hj, hall, k, rfl⟩ := hrel
    have HAll := hide hall; clear hall
    by_cases hlt : (j : Int) < n
    ·have c1 := unhide HLa j (by omega)
     have c2 := unhide HLb j (by have := unhide HN; have := unhide HL; omega)
     generalize hx : la.getD j 0 = x at *
     generalize hy : lb.getD j 0 = y at *
     have HX := hide hx; have HY := hide hy; clear hx hy hj
     by_cases he : x = y
     ·subst he
      go_wp2_with fail
      go_quiet (fail)
      go_wp2
      go_roundw
      case rel => exact ⟨j + 1, by go_num, by omega, fun i hi => by
       by_cases e : i = j
       ·subst e; rw [unhide HX, unhide HY]
       ·exact unhide HAll i (by omega), _, rfl⟩
      case measure => simp [intOf]; omega
     ·have t : (x != y) = true := by simpa using he
      have hf := unhide HNe j (by rw [unhide HX, unhide HY]; exact he)
      have HF := hide hf
      clear he hf
      go_wp2_with fail
      go_quiet (fail)
      go_wp2
      go_ret
      exact ⟨ret_bool (unhide HF).symm, ⟨rfl, rfl, rfl, Nat.le_refl _, fun _ _ => rfl⟩⟩
    ·obtain rfl : j = n := by omega
     have hf := unhide HEq (unhide HAll)
     have HF := hide hf
     clear hf hj hlt
     go_wp2
     go_ret
     exact ⟨ret_bool (unhide HF).symm, ⟨rfl, rfl, rfl, Nat.le_refl _, fun _ _ => rfl⟩⟩
  ·have hz : la.length = 0 := by omega
   have ht := unhide HEq (fun i hi => absurd hi (by omega))
   rw [ht, hz]
   clear ht HEq hA hB hcb hca h0 hz h1 HL
   go_enter Tryz.func77, Tryz.ntmps77
   go_wp2_with fail
   go_loopw [13] (fun c wr => c = .int .i64 0 ∧ wr = w) (fun c _ => 0)
   case atStart => exact ⟨rfl, rfl⟩
   case round =>
    obtain ⟨rfl, rfl⟩ := hrel
    go_wp2
    go_ret
    exact ⟨rfl, Below.refl _ _⟩
 ·have hf : (la == lb) = false := by rw [beq_eq_false_iff_ne]; rintro rfl; exact hl rfl
  have t : ((la.length : Int) != (lb.length : Int)) = true := by simp; omega
  rw [hf]
  clear hf hl hA hB
  generalize la.length = n at *
  generalize lb.length = m at *
  go_enter Tryz.func77, Tryz.ntmps77
  go_wp2
  go_ret
  exact ⟨rfl, Below.refl _ _⟩
/-- the same, part by part -/
def eqL {α : Type} (f : α → α → Bool) : List α → List α → Bool
 | [], [] => true
 | x :: a, y :: b => f x y && eqL f a b
 | _, _ => false
theorem eqL_len {α : Type} {f : α → α → Bool} : ∀ {a b : List α}, ¬ a.length = b.length → eqL f a b = false
 | [], [], h => absurd rfl h
 | x :: a, [], _ => rfl
 | [], y :: b, _ => rfl
 | x :: a, y :: b, h => by
   rw [eqL, eqL_len (a := a) (b := b) (by simpa using h)]; simp
theorem eqL_not {α : Type} {f : α → α → Bool} : ∀ {a b : List α} (j : Nat) (h1 : j < a.length) (h2 : j < b.length), f a[j] b[j] = false → eqL f a b = false
 | [], _, j, h1, _, _ => by simp at h1
 | _, [], j, _, h2, _ => by simp at h2
 | x :: a, y :: b, 0, _, _, h => by
   have h : f x y = false := h
   rw [eqL, h]; rfl
 | x :: a, y :: b, j + 1, h1, h2, h => by
   rw [eqL, eqL_not (a := a) (b := b) j (by simpa using h1) (by simpa using h2) h]; simp
theorem eqL_upto {α : Type} {f : α → α → Bool} : ∀ {a b : List α}, a.length = b.length → (∀ j (h1 : j < a.length) (h2 : j < b.length), f a[j] b[j] = true) → eqL f a b = true
 | [], [], _, _ => rfl
 | x :: a, [], h, _ => by simp at h
 | [], y :: b, h, _ => by simp at h
 | x :: a, y :: b, h, H => by
   have h0 : f x y = true := H 0 (by simp) (by simp)
   rw [eqL, h0, eqL_upto (a := a) (b := b) (by simpa using h) (fun j h1 h2 => H (j + 1) (by simpa using h1) (by simpa using h2))]; rfl
theorem eqL_iff {α : Type} {f : α → α → Bool} (hf : ∀ x y, f x y = true ↔ x = y) : ∀ {a b : List α}, eqL f a b = true ↔ a = b
 | [], [] => by simp [eqL]
 | x :: a, [] => by simp [eqL]
 | [], y :: b => by simp [eqL]
 | x :: a, y :: b => by rw [eqL, Bool.and_eq_true, hf, eqL_iff hf (a := a) (b := b)]; simp
def sI (x y : In) : Bool := x.op == y.op && x.dst == y.dst && x.n == y.n && x.of == y.of && x.src == y.src
def sB (x y : Bl) : Bool := x.dep == y.dep && x.next == y.next && eqL sI x.ins y.ins
def sC (x y : Co) : Bool := x.pa == y.pa && x.re == y.re && x.rs == y.rs && eqL sB x.bl y.bl
theorem sI_iff (x y : In) : sI x y = true ↔ x = y := by
 obtain ⟨a, b, c, d, e⟩ := x; obtain ⟨a', b', c', d', e'⟩ := y
 simp only [sI, Bool.and_eq_true, beq_iff_eq, In.mk.injEq]
 constructor
 ·rintro ⟨⟨⟨⟨h1, h2⟩, h3⟩, h4⟩, h5⟩; exact ⟨h1, h2, h5, h3, h4⟩
 ·rintro ⟨h1, h2, h5, h3, h4⟩; exact ⟨⟨⟨⟨h1, h2⟩, h3⟩, h4⟩, h5⟩
theorem sB_iff (x y : Bl) : sB x y = true ↔ x = y := by
 obtain ⟨a, b, c⟩ := x; obtain ⟨a', b', c'⟩ := y
 simp only [sB, Bool.and_eq_true, beq_iff_eq, Bl.mk.injEq, eqL_iff sI_iff]
 constructor
 ·rintro ⟨⟨h1, h2⟩, h3⟩; exact ⟨h3, h2, h1⟩
 ·rintro ⟨h3, h2, h1⟩; exact ⟨⟨h1, h2⟩, h3⟩
theorem sC_iff (x y : Co) : sC x y = true ↔ x = y := by
 obtain ⟨a, b, c, d⟩ := x; obtain ⟨a', b', c', d'⟩ := y
 simp only [sC, Bool.and_eq_true, beq_iff_eq, Co.mk.injEq, eqL_iff sB_iff]
 constructor
 ·rintro ⟨⟨⟨h1, h2⟩, h3⟩, h4⟩; exact ⟨h1, h2, h3, h4⟩
 ·rintro ⟨h1, h2, h3, h4⟩; exact ⟨⟨⟨h1, h2⟩, h3⟩, h4⟩
theorem two_boxes (w : World) (a b : Array Value) (t : TypeId) : Below w.heap.size w ((w.alloc (.cells a t)).alloc (.cells b t)) ∧ (∀ j : Nat, ((w.alloc (.cells a t)).alloc (.cells b t)).cell? ⟨w.heap.size, j, none⟩ = a[j]?) ∧
    (∀ j : Nat, ((w.alloc (.cells a t)).alloc (.cells b t)).cell? ⟨w.heap.size + 1, j, none⟩ = b[j]?) ∧ ((w.alloc (.cells a t)).alloc (.cells b t)).heap.size = w.heap.size + 2 :=
 ⟨two_allocs _ _ _, fun j => by simp, fun j => by simp, by simp⟩
theorem sI_any (x y : In) {g g2 : Nat → Prop} {vs vs2 : Value} (w : World) (h1 : NumsL w g x.src vs) (k1 : NumsL w g2 y.src vs2) (l1 : x.src.length ≤ 1099511627776) (l2 : y.src.length ≤ 1099511627776) :
    Calls Tryz.prog 79 #[.agg #[.int .u8 (x.op : Int), .int .i64 x.dst, vs, .int .i64 x.n, .int .u32 x.of], .agg #[.int .u8 (y.op : Int), .int .i64 y.dst, vs2, .int .i64 y.n, .int .u32 y.of]] w fun e w' => e = .returned (.bool (sI x y)) ∧ Below w.heap.size w w' := by
 obtain ⟨op, dst, src, n, of⟩ := x
 obtain ⟨op2, dst2, src2, n2, of2⟩ := y
 simp only at *
 have H1 := hide h1; have K1 := hide k1; have L1 := hide l1; have L2 := hide l2
 obtain ⟨ab, cb, rfl, _⟩ := h1
 obtain ⟨ab2, cb2, rfl, _⟩ := k1
 clear l1 l2
 by_cases e0 : op = op2
 case neg =>
  have t : ((op : Int) == (op2 : Int)) = false := by simp; omega
  have hf : sI ⟨op, dst, src, n, of⟩ ⟨op2, dst2, src2, n2, of2⟩ = false := by simp [sI, e0]
  have HF := hide hf
  clear hf e0 H1 K1
  generalize src.length = ll at *; generalize src2.length = ll2 at *
  go_enter Tryz.func79, Tryz.ntmps79
  go_wp2
  go_ret
  exact ⟨ret_bool (unhide HF).symm, two_allocs _ _ _⟩
 subst e0
 by_cases e1 : dst = dst2
 case neg =>
  have t : (dst == dst2) = false := by simp; omega
  have hf : sI ⟨op, dst, src, n, of⟩ ⟨op, dst2, src2, n2, of2⟩ = false := by simp [sI, e1]
  have HF := hide hf
  clear hf e1 H1 K1
  generalize src.length = ll at *; generalize src2.length = ll2 at *
  go_enter Tryz.func79, Tryz.ntmps79
  go_wp2
  go_ret
  exact ⟨ret_bool (unhide HF).symm, two_allocs _ _ _⟩
 subst e1
 by_cases e2 : n = n2
 case neg =>
  have t : (n == n2) = false := by simp; omega
  have hf : sI ⟨op, dst, src, n, of⟩ ⟨op, dst, src2, n2, of2⟩ = false := by simp [sI, e2]
  have HF := hide hf
  clear hf e2 H1 K1
  generalize src.length = ll at *; generalize src2.length = ll2 at *
  go_enter Tryz.func79, Tryz.ntmps79
  go_wp2
  go_ret
  exact ⟨ret_bool (unhide HF).symm, two_allocs _ _ _⟩
 subst e2
 by_cases e3 : of = of2
 case neg =>
  have t : (of == of2) = false := by simp; omega
  have hf : sI ⟨op, dst, src, n, of⟩ ⟨op, dst, src2, n, of2⟩ = false := by simp [sI, e3]
  have HF := hide hf
  clear hf e3 H1 K1
  generalize src.length = ll at *; generalize src2.length = ll2 at *
  go_enter Tryz.func79, Tryz.ntmps79
  go_wp2
  go_ret
  exact ⟨ret_bool (unhide HF).symm, two_allocs _ _ _⟩
 subst e3
 have HS := hide (show sI ⟨op, dst, src, n, of⟩ ⟨op, dst, src2, n, of⟩ = (src == src2) by simp [sI])
 go_enter Tryz.func79, Tryz.ntmps79
 go_wp2_with fail
 have hb0 := two_allocs w (.cells #[.int .u8 (op : Int), .int .i64 dst, .slice ab src.length cb, .int .i64 n, .int .u32 of] 53) (.cells #[.int .u8 (op : Int), .int .i64 dst, .slice ab2 src2.length cb2, .int .i64 n, .int .u32 of] 53)
 refine (eqi_any ((unhide H1).below hb0) ((unhide K1).below hb0) (unhide L1) (unhide L2)).mono ?_
 rintro e w3 ⟨rfl, hb3⟩
 have HBB := hide (Below.on hb0 hb3)
 clear hb0 hb3
 go_wp2
 go_ret
 exact ⟨ret_bool (unhide HS).symm, unhide HBB⟩
theorem eqI_any (a b : List In) {g g2 : Nat → Prop} {va vb : Value} (w : World) (ha : LL InC 5 w g a va) (hb : LL InC 5 w g2 b vb) (l1 : a.length ≤ 1099511627776) (l2 : b.length ≤ 1099511627776) (z1 : ∀ x ∈ a, WfI x) (z2 : ∀ x ∈ b, WfI x) :
    Calls Tryz.prog 78 #[va, vb, .func (.func 79) #[] #[]] w fun e w' => e = .returned (.bool (eqL sI a b)) ∧ Below w.heap.size w w' := by
 obtain ⟨aa, ca, rfl, hca, _, hA⟩ := ha
 obtain ⟨ab, cb, rfl, hcb, _, hB⟩ := hb
 by_cases hl : a.length = b.length
 ·rw [← hl] at hB hcb ⊢
  have HL := hide hl; have Z1 := hide z1; have Z2 := hide z2
  clear hl z1 z2 l2
  by_cases h0 : 0 < a.length
  ·obtain ⟨ba, oa, rfl, _, hba, hla⟩ := hA h0
   obtain ⟨bb, ob, rfl, _, hbb, hlb⟩ := hB h0
   have HLa := hide hla; have HLb := hide hlb
   clear hA hB hla hlb
   generalize hn : a.length = n at *
   have HN := hide hn; clear hn
   go_enter Tryz.func78, Tryz.ntmps78
   go_wp2_with fail
   go_loopw [17] (fun c wr => ∃ j : Nat, c = .int .i64 j ∧ (j : Int) ≤ n ∧ (∀ i (h1 : i < a.length) (h2 : i < b.length), i < j → sI a[i] b[i] = true) ∧ Below w.heap.size w wr) (fun c _ => n - (intOf c).toNat)
   case atStart => exact ⟨0, rfl, by omega, fun i _ _ hi => absurd hi (by omega), Below.refl _ _⟩
   case round =>
    obtain ⟨j, rfl, hj, hall, hbel⟩ := hrel
    have HAll := hide hall; have HBel := hide hbel
    clear hall
    by_cases hlt : (j : Int) < n
    ·have ja : j < a.length := by have := unhide HN; omega
     have jb : j < b.length := by have := unhide HN; have := unhide HL; omega
     obtain ⟨cs, hcl, iA, hce⟩ := unhide HLa j a[j] (List.getElem?_eq_getElem ja)
     obtain ⟨ds, hdl, iB, hde⟩ := unhide HLb j b[j] (List.getElem?_eq_getElem jb)
     have cc := fun i u hu => (hbel.cell (p := ⟨ba, oa + j * 5 + i, none⟩) hba).trans (hce i u hu)
     have dd := fun i u hu => (hbel.cell (p := ⟨bb, ob + j * 5 + i, none⟩) hbb).trans (hde i u hu)
     have sA := unhide Z1 a[j] (List.getElem_mem ja)
     have sB := unhide Z2 b[j] (List.getElem_mem jb)
     generalize hx : a[j] = x at *
     generalize hy : b[j] = y at *
     have HX := hide hx; have HY := hide hy; have SA := hide sA; have SB := hide sB
     obtain ⟨v1, rfl, h1⟩ := iA
     obtain ⟨v2, rfl, k1⟩ := iB
     have H1 := hide (h1.below (unhide HBel)); have K1 := hide (k1.below (unhide HBel))
     obtain ⟨c1, cb1, rfl, _⟩ := h1
     obtain ⟨d1, db1, rfl, _⟩ := k1
     have e0 := cc 0 _ rfl; have e1 := cc 1 _ rfl; have e2 := cc 2 _ rfl; have e3 := cc 3 _ rfl; have e4 := cc 4 _ rfl
     have f0 := dd 0 _ rfl; have f1 := dd 1 _ rfl; have f2 := dd 2 _ rfl; have f3 := dd 3 _ rfl; have f4 := dd 4 _ rfl
     simp only [Nat.add_zero] at e0 f0
     clear hx hy sA sB cc dd hce hde hcl hdl hj hbel
     have hlb2 : bb < wr.heap.size := World.block_lt_of_cell? wr _ f0
     go_wp2_with fail
     have hb0 := two_allocs wr (.cells #[.int .u8 (x.op : Int), .int .i64 x.dst, .slice c1 x.src.length cb1, .int .i64 x.n, .int .u32 x.of] 53) (.cells #[.int .u8 (y.op : Int), .int .i64 y.dst, .slice d1 y.src.length db1, .int .i64 y.n, .int .u32 y.of] 53)
     refine (sI_any x y _ ((unhide H1).below hb0) ((unhide K1).below hb0) (unhide SA).len (unhide SB).len).mono ?_
     rintro e w3 ⟨rfl, hb3⟩
     have HBB := hide (Below.on (unhide HBel) (Below.on hb0 hb3))
     clear hb0 hb3 hlb2 e0 e1 e2 e3 e4 f0 f1 f2 f3 f4 H1 K1 HBel
     cases hs : sI x y with
     | false =>
       have HF := hide (show eqL sI a b = false from eqL_not j ja jb (by rw [unhide HX, unhide HY]; exact hs))
       clear hs
       go_wp2
       go_ret
       exact ⟨ret_bool (unhide HF).symm, unhide HBB⟩
     | true =>
       have HT := hide hs
       clear hs
       go_wp2
       go_roundw
       case rel => exact ⟨j + 1, by go_num, by omega, fun i i1 i2 hi => by
        by_cases e : i = j
        ·subst e; rw [unhide HX, unhide HY]; exact unhide HT
        ·exact unhide HAll i i1 i2 (by omega), unhide HBB⟩
       case measure => simp [intOf]; omega
    ·obtain rfl : j = n := by omega
     have HF := hide (show eqL sI a b = true from eqL_upto ((unhide HN).trans (unhide HL)) fun i i1 i2 => unhide HAll i i1 i2 (by have := unhide HN; omega))
     clear hj hlt hbel
     go_wp2
     go_ret
     exact ⟨ret_bool (unhide HF).symm, unhide HBel⟩
  ·have hz : a.length = 0 := by omega
   have ht : eqL sI a b = true := eqL_upto (unhide HL) fun i i1 i2 => absurd i1 (by omega)
   rw [ht, hz]
   clear ht hA hB hcb hca h0 hz HL l1
   go_enter Tryz.func78, Tryz.ntmps78
   go_wp2_with fail
   go_loopw [17] (fun c wr => c = .int .i64 0 ∧ wr = w) (fun c _ => 0)
   case atStart => exact ⟨rfl, rfl⟩
   case round =>
    obtain ⟨rfl, rfl⟩ := hrel
    go_wp2
    go_ret
    exact ⟨rfl, Below.refl _ _⟩
 ·have hf : eqL sI a b = false := eqL_len hl
  have t : ((a.length : Int) != (b.length : Int)) = true := by simp; omega
  rw [hf]
  clear hf hl hA hB
  generalize a.length = n at *
  generalize b.length = m at *
  go_enter Tryz.func78, Tryz.ntmps78
  go_wp2
  go_ret
  exact ⟨rfl, Below.refl _ _⟩
theorem sB_any (x y : Bl) (hx : WfB x) (hy : WfB y) {g g2 : Nat → Prop} {vi vn vi2 vn2 : Value} (w : World) (h1 : LL InC 5 w g x.ins vi) (h2 : NumsL w g x.next vn) (k1 : LL InC 5 w g2 y.ins vi2) (k2 : NumsL w g2 y.next vn2) :
    Calls Tryz.prog 52 #[.agg #[vi, vn, .int .i64 x.dep], .agg #[vi2, vn2, .int .i64 y.dep]] w fun e w' => e = .returned (.bool (sB x y)) ∧ Below w.heap.size w w' := by
 have HX := hide hx; have HY := hide hy
 clear hx hy
 obtain ⟨ins, next, dep⟩ := x
 obtain ⟨ins2, next2, dep2⟩ := y
 simp only at *
 have H1 := hide h1; have K1 := hide k1; have H2 := hide h2; have K2 := hide k2
 obtain ⟨ab, cb, rfl, _⟩ := h1
 obtain ⟨ab2, cb2, rfl, _⟩ := k1
 obtain ⟨an, cn, rfl, _⟩ := h2
 obtain ⟨an2, cn2, rfl, _⟩ := k2
 by_cases e0 : dep = dep2
 case neg =>
  have t : (dep == dep2) = false := by simpa using e0
  have hf : sB ⟨ins, next, dep⟩ ⟨ins2, next2, dep2⟩ = false := by simp [sB, e0]
  have HF := hide hf
  clear hf e0 H1 K1 H2 K2 HX HY
  generalize ins.length = ll at *; generalize ins2.length = ll2 at *; generalize next.length = nl at *; generalize next2.length = nl2 at *
  go_enter Tryz.func52, Tryz.ntmps52
  go_wp2
  go_ret
  exact ⟨ret_bool (unhide HF).symm, two_allocs _ _ _⟩
 subst e0
 have HS := hide (show sB ⟨ins, next, dep⟩ ⟨ins2, next2, dep⟩ = ((next == next2) && eqL sI ins ins2) by simp [sB])
 go_enter Tryz.func52, Tryz.ntmps52
 go_wp2_with fail
 obtain ⟨hb0, f5, s5, hz⟩ := two_boxes w #[.slice ab ins.length cb, .slice an next.length cn, .int .i64 dep] #[.slice ab2 ins2.length cb2, .slice an2 next2.length cn2, .int .i64 dep] 56
 generalize (w.alloc (.cells #[.slice ab ins.length cb, .slice an next.length cn, .int .i64 dep] 56)).alloc (.cells #[.slice ab2 ins2.length cb2, .slice an2 next2.length cn2, .int .i64 dep] 56) = w2 at *
 have c5 : w2.cell? ⟨w.heap.size, 0, none⟩ = some (.slice ab ins.length cb) := f5 0
 have d5 : w2.cell? ⟨w.heap.size + 1, 0, none⟩ = some (.slice ab2 ins2.length cb2) := s5 0
 clear f5 s5
 refine (eqi_any ((unhide H2).below hb0) ((unhide K2).below hb0) (unhide HX).nlen (unhide HY).nlen).mono ?_
 rintro e w3 ⟨rfl, hb3⟩
 have hbb := Below.on hb0 hb3
 have hz3 := hb3.size
 replace c5 := (hb3.cell (p := ⟨w.heap.size, 0, none⟩) (by simp only; omega)).trans c5
 replace d5 := (hb3.cell (p := ⟨w.heap.size + 1, 0, none⟩) (by simp only; omega)).trans d5
 have HBB := hide hbb
 clear hb3 hb0 hbb hz hz3
 cases hls : (next == next2) with
 | false =>
   have HF := hide (show sB ⟨ins, next, dep⟩ ⟨ins2, next2, dep⟩ = false by rw [unhide HS, hls]; rfl)
   clear hls
   go_wp2
   go_ret
   exact ⟨ret_bool (unhide HF).symm, unhide HBB⟩
 | true =>
   have HLs := hide hls
   clear hls
   go_wp2_with fail
   refine (eqI_any ins ins2 w3 ((unhide H1).moved (Mv.below (unhide HBB) fun _ _ h => h) (unhide HBB).size (fun _ _ q => q.moved (Mv.below (unhide HBB) fun _ _ h => h))) ((unhide K1).moved (Mv.below (unhide HBB) fun _ _ h => h) (unhide HBB).size (fun _ _ q => q.moved (Mv.below (unhide HBB) fun _ _ h => h))) (unhide HX).len (unhide HY).len (unhide HX).ins (unhide HY).ins).mono ?_
   rintro e w4 ⟨rfl, hb4⟩
   have HB4 := hide (Below.on (unhide HBB) hb4)
   have HF := hide (show sB ⟨ins, next, dep⟩ ⟨ins2, next2, dep⟩ = eqL sI ins ins2 by rw [unhide HS, unhide HLs]; simp)
   clear hb4 c5 d5
   go_wp2
   go_ret
   exact ⟨ret_bool (unhide HF).symm, unhide HB4⟩
theorem eqB_any (a b : List Bl) {g g2 : Nat → Prop} {va vb : Value} (w : World) (ha : LL BlC 3 w g a va) (hb : LL BlC 3 w g2 b vb) (l1 : a.length ≤ 1099511627776) (l2 : b.length ≤ 1099511627776) (z1 : ∀ x ∈ a, WfB x) (z2 : ∀ x ∈ b, WfB x) :
    Calls Tryz.prog 51 #[va, vb, .func (.func 52) #[] #[]] w fun e w' => e = .returned (.bool (eqL sB a b)) ∧ Below w.heap.size w w' := by
 obtain ⟨aa, ca, rfl, hca, _, hA⟩ := ha
 obtain ⟨ab, cb, rfl, hcb, _, hB⟩ := hb
 by_cases hl : a.length = b.length
 ·rw [← hl] at hB hcb ⊢
  have HL := hide hl; have Z1 := hide z1; have Z2 := hide z2
  clear hl z1 z2 l2
  by_cases h0 : 0 < a.length
  ·obtain ⟨ba, oa, rfl, _, hba, hla⟩ := hA h0
   obtain ⟨bb, ob, rfl, _, hbb, hlb⟩ := hB h0
   have HLa := hide hla; have HLb := hide hlb
   clear hA hB hla hlb
   generalize hn : a.length = n at *
   have HN := hide hn; clear hn
   go_enter Tryz.func51, Tryz.ntmps51
   go_wp2_with fail
   go_loopw [17] (fun c wr => ∃ j : Nat, c = .int .i64 j ∧ (j : Int) ≤ n ∧ (∀ i (h1 : i < a.length) (h2 : i < b.length), i < j → sB a[i] b[i] = true) ∧ Below w.heap.size w wr) (fun c _ => n - (intOf c).toNat)
   case atStart => exact ⟨0, rfl, by omega, fun i _ _ hi => absurd hi (by omega), Below.refl _ _⟩
   case round =>
    obtain ⟨j, rfl, hj, hall, hbel⟩ := hrel
    have HAll := hide hall; have HBel := hide hbel
    clear hall
    by_cases hlt : (j : Int) < n
    ·have ja : j < a.length := by have := unhide HN; omega
     have jb : j < b.length := by have := unhide HN; have := unhide HL; omega
     obtain ⟨cs, hcl, iA, hce⟩ := unhide HLa j a[j] (List.getElem?_eq_getElem ja)
     obtain ⟨ds, hdl, iB, hde⟩ := unhide HLb j b[j] (List.getElem?_eq_getElem jb)
     have cc := fun i u hu => (hbel.cell (p := ⟨ba, oa + j * 3 + i, none⟩) hba).trans (hce i u hu)
     have dd := fun i u hu => (hbel.cell (p := ⟨bb, ob + j * 3 + i, none⟩) hbb).trans (hde i u hu)
     have sA := unhide Z1 a[j] (List.getElem_mem ja)
     have sB := unhide Z2 b[j] (List.getElem_mem jb)
     generalize hx : a[j] = x at *
     generalize hy : b[j] = y at *
     have HX := hide hx; have HY := hide hy; have SA := hide sA; have SB := hide sB
     obtain ⟨v1, w1, rfl, h1, h2⟩ := iA
     obtain ⟨v2, w2, rfl, k1, k2⟩ := iB
     have H1 := hide (Inss.below (unhide HBel) h1); have K1 := hide (Inss.below (unhide HBel) k1); have H2 := hide (h2.below (unhide HBel)); have K2 := hide (k2.below (unhide HBel))
     obtain ⟨c1, cb1, rfl, _⟩ := h1
     obtain ⟨d1, db1, rfl, _⟩ := k1
     obtain ⟨c2, cb2, rfl, _⟩ := h2
     obtain ⟨d2, db2, rfl, _⟩ := k2
     have e0 := cc 0 _ rfl; have e1 := cc 1 _ rfl; have e2 := cc 2 _ rfl
     have f0 := dd 0 _ rfl; have f1 := dd 1 _ rfl; have f2 := dd 2 _ rfl
     simp only [Nat.add_zero] at e0 f0
     clear hx hy sA sB cc dd hce hde hcl hdl hj hbel
     have hlb2 : bb < wr.heap.size := World.block_lt_of_cell? wr _ f0
     go_wp2_with fail
     have hb0 := two_allocs wr (.cells #[.slice c1 x.ins.length cb1, .slice c2 x.next.length cb2, .int .i64 x.dep] 56) (.cells #[.slice d1 y.ins.length db1, .slice d2 y.next.length db2, .int .i64 y.dep] 56)
     refine (sB_any x y (unhide SA) (unhide SB) _ (Inss.below hb0 (unhide H1)) ((unhide H2).below hb0) (Inss.below hb0 (unhide K1)) ((unhide K2).below hb0)).mono ?_
     rintro e w3 ⟨rfl, hb3⟩
     have HBB := hide (Below.on (unhide HBel) (Below.on hb0 hb3))
     clear hb0 hb3 hlb2 e0 e1 e2 f0 f1 f2 H1 K1 H2 K2 HBel
     cases hs : sB x y with
     | false =>
       have HF := hide (show eqL sB a b = false from eqL_not j ja jb (by rw [unhide HX, unhide HY]; exact hs))
       clear hs
       go_wp2
       go_ret
       exact ⟨ret_bool (unhide HF).symm, unhide HBB⟩
     | true =>
       have HT := hide hs
       clear hs
       go_wp2
       go_roundw
       case rel => exact ⟨j + 1, by go_num, by omega, fun i i1 i2 hi => by
        by_cases e : i = j
        ·subst e; rw [unhide HX, unhide HY]; exact unhide HT
        ·exact unhide HAll i i1 i2 (by omega), unhide HBB⟩
       case measure => simp [intOf]; omega
    ·obtain rfl : j = n := by omega
     have HF := hide (show eqL sB a b = true from eqL_upto ((unhide HN).trans (unhide HL)) fun i i1 i2 => unhide HAll i i1 i2 (by have := unhide HN; omega))
     clear hj hlt hbel
     go_wp2
     go_ret
     exact ⟨ret_bool (unhide HF).symm, unhide HBel⟩
  ·have hz : a.length = 0 := by omega
   have ht : eqL sB a b = true := eqL_upto (unhide HL) fun i i1 i2 => absurd i1 (by omega)
   rw [ht, hz]
   clear ht hA hB hcb hca h0 hz HL l1
   go_enter Tryz.func51, Tryz.ntmps51
   go_wp2_with fail
   go_loopw [17] (fun c wr => c = .int .i64 0 ∧ wr = w) (fun c _ => 0)
   case atStart => exact ⟨rfl, rfl⟩
   case round =>
    obtain ⟨rfl, rfl⟩ := hrel
    go_wp2
    go_ret
    exact ⟨rfl, Below.refl _ _⟩
 ·have hf : eqL sB a b = false := eqL_len hl
  have t : ((a.length : Int) != (b.length : Int)) = true := by simp; omega
  rw [hf]
  clear hf hl hA hB
  generalize a.length = n at *
  generalize b.length = m at *
  go_enter Tryz.func51, Tryz.ntmps51
  go_wp2
  go_ret
  exact ⟨rfl, Below.refl _ _⟩
theorem same_any (x y : Co) (hx : WfC x) (hy : WfC y) {g g2 : Nat → Prop} {v v2 : Value} (w : World) (h1 : Bls w g x.bl v) (k1 : Bls w g2 y.bl v2) :
    Calls Tryz.prog 25 #[.agg #[.int .i64 x.pa, .int .i64 x.re, .bool x.rs, v], .agg #[.int .i64 y.pa, .int .i64 y.re, .bool y.rs, v2]] w fun e w' => e = .returned (.bool (sC x y)) ∧ Below w.heap.size w w' := by
 have HX := hide hx; have HY := hide hy
 clear hx hy
 obtain ⟨pa, re, rs, bl⟩ := x
 obtain ⟨pa2, re2, rs2, bl2⟩ := y
 simp only at *
 have H1 := hide h1; have K1 := hide k1
 obtain ⟨ab, cb, rfl, _⟩ := h1
 obtain ⟨ab2, cb2, rfl, _⟩ := k1
 by_cases e0 : pa = pa2
 case neg =>
  have t : (pa == pa2) = false := by simpa using e0
  have hf : sC ⟨pa, re, rs, bl⟩ ⟨pa2, re2, rs2, bl2⟩ = false := by simp [sC, e0]
  have HF := hide hf
  clear hf e0 H1 K1 HX HY
  generalize bl.length = ll at *; generalize bl2.length = ll2 at *
  go_enter Tryz.func25, Tryz.ntmps25
  go_wp2
  go_ret
  exact ⟨ret_bool (unhide HF).symm, two_allocs _ _ _⟩
 subst e0
 by_cases e1 : re = re2
 case neg =>
  have t : (re == re2) = false := by simpa using e1
  have hf : sC ⟨pa, re, rs, bl⟩ ⟨pa, re2, rs2, bl2⟩ = false := by simp [sC, e1]
  have HF := hide hf
  clear hf e1 H1 K1 HX HY
  generalize bl.length = ll at *; generalize bl2.length = ll2 at *
  go_enter Tryz.func25, Tryz.ntmps25
  go_wp2
  go_ret
  exact ⟨ret_bool (unhide HF).symm, two_allocs _ _ _⟩
 subst e1
 by_cases e2 : rs = rs2
 case neg =>
  have t : (rs == rs2) = false := by simpa using e2
  have hf : sC ⟨pa, re, rs, bl⟩ ⟨pa, re, rs2, bl2⟩ = false := by simp [sC, e2]
  have HF := hide hf
  clear hf e2 H1 K1 HX HY
  generalize bl.length = ll at *; generalize bl2.length = ll2 at *
  go_enter Tryz.func25, Tryz.ntmps25
  go_wp2
  go_ret
  exact ⟨ret_bool (unhide HF).symm, two_allocs _ _ _⟩
 subst e2
 have HS := hide (show sC ⟨pa, re, rs, bl⟩ ⟨pa, re, rs, bl2⟩ = eqL sB bl bl2 by simp [sC])
 go_enter Tryz.func25, Tryz.ntmps25
 go_wp2_with fail
 have hb0 := two_allocs w (.cells #[.int .i64 pa, .int .i64 re, .bool rs, .slice ab bl.length cb] 29) (.cells #[.int .i64 pa, .int .i64 re, .bool rs, .slice ab2 bl2.length cb2] 29)
 refine (eqB_any bl bl2 _ ((unhide H1).below hb0) ((unhide K1).below hb0) (unhide HX).len (unhide HY).len (unhide HX).bl (unhide HY).bl).mono ?_
 rintro e w3 ⟨rfl, hb3⟩
 have HBB := hide (Below.on hb0 hb3)
 clear hb0 hb3
 go_wp2
 go_ret
 exact ⟨ret_bool (unhide HS).symm, unhide HBB⟩
end Vc
end Go.Proofs.YtglehoekehiaiaaGreatDoor
